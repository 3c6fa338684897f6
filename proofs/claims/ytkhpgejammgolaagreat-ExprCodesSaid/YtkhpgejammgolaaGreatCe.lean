/- Ce: EAw (made by shake.py). -/
import Derived.Test.YtkhpgejammgolaaGreatCd
/- Layer 5: the law's awake. (Made by gen/genawake5.py.) -/
namespace Go.Proofs.YtkhpgejammgolaaGreat
open Go.RowKit
set_option linter.unusedVariables false
set_option linter.unusedSimpArgs false
set_option maxRecDepth 20000

theorem bt {a b c : World} (h : Below a.heap.size a b) (k : Below b.heap.size b c) : Below a.heap.size a c := h.trans (k.mono h.size)
/-- what stands once the examples' parts are laid -/
structure AwB (w : World) (b g : Nat) (W : World) : Prop where
  bel : Below w.heap.size w W
  one : CellsX W b 1 none 0 0 ⟨#[]⟩ (vInt 1)
  nou : CellsX W (b + 1) 1 none 0 0 ⟨#[]⟩ (vInt 0)
  fld : CellsX W (b + 1 + 1) 2 none 0 0 ⟨#[97]⟩ vZero
  fds : FdK W (some ⟨g, 0, none⟩) 1 fsA
theorem AwB.below {w : World} {b g : Nat} {W W' : World} (h : AwB w b g W) (hb : Below W.heap.size W W') : AwB w b g W' :=
  ⟨h.bel.trans (hb.mono h.bel.size), h.one.below hb, h.nou.below hb, h.fld.below hb, h.fds.below hb (Nat.le_refl _)⟩
/-- .. and the first answer -/
structure AwC (w : World) (b g b5 : Nat) (W : World) : Prop where
  aw : AwB w b g W
  v5 : Bx W b5 (vInt 3)
theorem AwC.below {w : World} {b g b5 : Nat} {W W' : World} (h : AwC w b g b5 W) (hb : Below W.heap.size W W') : AwC w b g b5 W' := ⟨h.aw.below hb, h.v5.below hb⟩
theorem bel_at {w : World} {b g b5 : Nat} {W : World} {o : Obj} (h : AwC w b g b5 (W.alloc o)) : Below W.heap.size W (W.alloc o) := alloc1 W o
/-- a value's block -/
def Vb (W : World) (b : Nat) : Prop := ∃ cs, W.heap[b]? = some (.cells cs 25 (0, 0)) ∧ cs.size = 5
theorem Vb.below {W W' : World} {b : Nat} (h : Vb W b) (hb : Below W.heap.size W W') : Vb W' b := let ⟨cs, h1, h2⟩ := h; ⟨cs, (hb.block b (Array.getElem?_eq_some_iff.1 h1).1).trans h1, h2⟩
theorem vb_at {w : World} {b g b5 : Nat} {W : World} {u0 u1 u2 u3 u4 : Value} (h : AwC w b g b5 (W.alloc (.cells #[u0, u1, u2, u3, u4] 25))) : Vb (W.alloc (.cells #[u0, u1, u2, u3, u4] 25)) W.heap.size := ⟨_, heap_alloc_new _ _, rfl⟩
theorem Vb.open {W : World} {b : Nat} (h : Vb W b) : ∃ u0 u1 u2 u3 u4, W.cell? ⟨b, 0, none⟩ = some u0 ∧ W.cell? ⟨b, 1, none⟩ = some u1 ∧ W.cell? ⟨b, 2, none⟩ = some u2 ∧ W.cell? ⟨b, 3, none⟩ = some u3 ∧ W.cell? ⟨b, 4, none⟩ = some u4 ∧ (∀ j, W.frozen? ⟨b, j, none⟩ = false) := by
  obtain ⟨cs, h1, h2⟩ := h
  have hat : ∀ (j : Nat) (hj : j < 5), W.cell? ⟨b, j, none⟩ = some (cs[j]'(by omega)) := fun j hj => by
    have := cell_of_row W b j _ _ (0, 0) h1
    rw [this, Array.getElem?_eq_getElem (by omega)]
  exact ⟨_, _, _, _, _, hat 0 (by omega), hat 1 (by omega), hat 2 (by omega), hat 3 (by omega), hat 4 (by omega), fun j => by unfold World.frozen?; simp only [h1]; simp⟩
theorem Vb.lt {W : World} {b : Nat} (h : Vb W b) : b < W.heap.size := let ⟨_, h1, _⟩ := h; (Array.getElem?_eq_some_iff.1 h1).1
theorem two_at {w : World} {b g b5 : Nat} {W : World} {A0 A1 : Option Addr} {c0 c1 : Nat} (e0 e1 : Ex) (o : Int) (h : AwC w b g b5 (W.alloc (row2 e0.op A0 e0.kids.length c0 e0.name e0.val e1.op A1 e1.kids.length c1 e1.name e1.val))) (h0 : ExE W A0 c0 e0) (h1 : ExE W A1 c1 e1) :
    ExE (W.alloc (row2 e0.op A0 e0.kids.length c0 e0.name e0.val e1.op A1 e1.kids.length c1 e1.name e1.val)) (some ⟨W.heap.size, 0, none⟩) 2 (opX o [e0, e1]) := ExE.two o h0 h1
/-- a store into a block beside the parts -/
theorem AwB.set5 {w : World} {b g b9 : Nat} {W : World} (h : AwB w b g W) (hg : g + 1 ≤ b9) (hgb : g = b + 1 + 1 + 1) (hw : w.heap.size ≤ b) (u0 u1 u2 u3 u4 : Value) : AwB w b g (((((W.setCell ⟨b9, 0, none⟩ u0).setCell ⟨b9, 1, none⟩ u1).setCell ⟨b9, 2, none⟩ u2).setCell ⟨b9, 3, none⟩ u3).setCell ⟨b9, 4, none⟩ u4) := by
  have hb := below_set5 (Below.refl (g + 1) W) hg u0 u1 u2 u3 u4
  have hc : ∀ {b' : Nat} {op : Int} {A : Option Addr} {n c : Nat} {nm : ByteArray} {y : Vl}, b' < g + 1 → CellsX W b' op A n c nm y → CellsX (((((W.setCell ⟨b9, 0, none⟩ u0).setCell ⟨b9, 1, none⟩ u1).setCell ⟨b9, 2, none⟩ u2).setCell ⟨b9, 3, none⟩ u3).setCell ⟨b9, 4, none⟩ u4) b' op A n c nm y := fun hl h => ⟨keepc hb hl h.1, keepc hb hl h.2.1, keepc hb hl h.2.2.1, keepc hb hl h.2.2.2.1, keepc hb hl h.2.2.2.2.1, keepc hb hl h.2.2.2.2.2.1, keepc hb hl h.2.2.2.2.2.2.1, keepc hb hl h.2.2.2.2.2.2.2⟩
  refine ⟨h.bel.trans (hb.mono (by omega)), hc (by omega) h.one, hc (by omega) h.nou, hc (by omega) h.fld, ?_⟩
  obtain ⟨h1, h2, h3, h4⟩ := h.fds
  refine ⟨h1, h2, h3, fun j hj => ?_⟩
  obtain ⟨ad, A', n', c', y, e1, e2, e3⟩ := h4 j hj
  injection e1 with e1
  subst e1
  exact ⟨_, A', n', c', y, rfl, Nat.lt_of_lt_of_le e2 hb.size, e3.below hb (by rw [block_add]; show g < g + 1; omega)⟩
theorem AwC.set5 {w : World} {b g b5 b9 : Nat} {W : World} (h : AwC w b g b5 W) (hg : g + 1 ≤ b9) (hgb : g = b + 1 + 1 + 1) (hw : w.heap.size ≤ b) (hne : b5 ≠ b9) (u0 u1 u2 u3 u4 : Value) : AwC w b g b5 (((((W.setCell ⟨b9, 0, none⟩ u0).setCell ⟨b9, 1, none⟩ u1).setCell ⟨b9, 2, none⟩ u2).setCell ⟨b9, 3, none⟩ u3).setCell ⟨b9, 4, none⟩ u4) :=
  ⟨h.aw.set5 hg hgb hw _ _ _ _ _, bx_off h.v5 hne _ _ _ _ _⟩
theorem num15 : numW 4609434218613702656 = 4609434218613702656 := by
  have : nanB 4609434218613702656 = false := by rw [← Bool.not_eq_true, nanB_iff]; decide
  unfold numW
  rw [this]; rfl
theorem rNum15 (w : World) : Calls Tryz.prog 54 #[.float .f64 4609434218613702656] w (VMk (agV (vNum 4609434218613702656)) w) := by
  have h := rNumV_any 4609434218613702656 w
  rwa [num15] at h
theorem check_at {w : World} {A FA : Option Addr} {c FC : Nat} {e : Ex} {fs : List Fd} {r : Int × Int} (hx : ExE w A c e) (hf : FdK w FA FC fs) (hr : checkX e fs = r) :
    Calls Tryz.prog 24 #[agX e.op A e.kids.length c e.name e.val, .slice FA fs.length FC] w (VMk (pairII r) w) := by
  obtain ⟨D, hx⟩ := hx
  have h := eCheck_any FA FC fs D e A c w hx hf
  rwa [hr] at h
theorem AwB.glt {w : World} {b g : Nat} {W : World} (h : AwB w b g W) : g + 1 ≤ W.heap.size := by
  obtain ⟨-, -, -, h4⟩ := h.fds
  obtain ⟨ad, A', n', c', y, e1, e2, e3⟩ := h4 0 (by show 0 < 1; omega)
  injection e1 with e1
  subst e1
  exact e2
theorem AwC.lt5 {w : World} {b g b5 : Nat} {W : World} (h : AwC w b g b5 W) : b5 < W.heap.size := World.block_lt_of_cell? W _ h.v5.1
theorem in64_lit {n : Int} (h : -100 ≤ n) (h2 : n ≤ 100) : in64 n := by unfold in64; omega
theorem ok_con {d : Nat} {v : Vl} (h : okV v) : okX (d + 1) (conX v) := ⟨h, show in64 1 from in64_lit (by decide) (by decide), fun k hk => by cases hk⟩
theorem ok_op {d : Nat} {o : Int} {ks : List Ex} (ho : in64 o) (h : ∀ k ∈ ks, okX d k) : okX (d + 1) (opX o ks) := ⟨ok_zero, ho, h⟩
theorem ok_two {d : Nat} {o : Int} {a b : Ex} (ho : in64 o) (ha : okX d a) (hb : okX d b) : okX (d + 1) (opX o [a, b]) := ok_op ho fun k hk => by
  rcases List.mem_cons.1 hk with rfl | hk
  · exact ha
  · rcases List.mem_cons.1 hk with rfl | hk
    · exact hb
    · cases hk
theorem ok_fA (d : Nat) : okX (d + 1) fA := ⟨ok_zero, show in64 2 from in64_lit (by decide) (by decide), fun k hk => by cases hk⟩
theorem eval_at {w : World} {A FA VA : Option Addr} {c FC VC : Nat} {e : Ex} {fs : List Fd} {vs : List Vl} {r : Vl × Int} (hx : ExE w A c e) (hf : FdK w FA FC fs) (hv : VlK w VA VC vs) (hok : okX 6 e) (hvs : ∀ v ∈ vs, okV v) (hr : evalP e fs vs = r) :
    Calls Tryz.prog 41 #[agX e.op A e.kids.length c e.name e.val, .slice FA fs.length FC, .slice VA vs.length VC] w (VMk (pairVE r.1 r.2) w) := by
  obtain ⟨D, hx⟩ := hx
  have h := Eval_any FA FC fs VA VC vs D e A c w hx hf hv hok hvs
  rwa [hr] at h
set_option maxHeartbeats 8000000 in
theorem awake5_any (w : World) : Calls Tryz.prog 22 #[] w (VMk (.bool true) w) := by
  have hsf := fun (w : World) (a : Addr) (m : Mode) (b : Nat) => run_store Tryz.prog w a (.float .f64 b) m rfl
  have i1 := Lib.hid (fun W => rIntV_any 1 W)
  have i0 := Lib.hid (fun W => rIntV_any 0 W)
  have i2 := Lib.hid (fun W => rIntV_any 2 W)
  have cn := Lib.hid con_any
  have on := Lib.hid op_any
  have tf := Lib.hid (fun W => rTruthV_any false W)
  go_enter Tryz.func22, Tryz.ntmps22
  go_wp2_with fail
  refine (i1.out _).mono ?_
  rintro e w1 ⟨rfl, hb1⟩
  go_wp2_with fail
  refine (cn.out (vInt 1) _).mono ?_
  rintro e w2 ⟨rfl, hb2⟩
  go_wp2_with fail
  refine (i0.out _).mono ?_
  rintro e w3 ⟨rfl, hb3⟩
  go_wp2_with fail
  refine (cn.out (vInt 0) _).mono ?_
  rintro e w4 ⟨rfl, hb4⟩
  have B4 : Below w.heap.size w w4 := bt (bt (bt hb1 hb2) hb3) hb4
  clear hb1 hb2 hb3 hb4
  go_upto_region 4 with fail
  have haw : AwB w w4.heap.size (w4.heap.size + 1 + 1 + 1) ((((w4.alloc (.cells #[.int .i64 1, .slice none 0 0, .string { data := #[] }, .int .i64 1, .int .i64 1, .bool false, .string { data := #[] }, .float .f64 0] 27)).alloc (.cells #[.int .i64 1, .slice none 0 0, .string { data := #[] }, .int .i64 1, .int .i64 0, .bool false, .string { data := #[] }, .float .f64 0] 27)).alloc (.cells #[.int .i64 2, .slice none 0 0, .string { data := #[97] }, .int .i64 0, .int .i64 0, .bool false, .string { data := #[] }, .float .f64 0] 27)).alloc (.cells #[.string { data := #[97] }, .int .i64 1, .slice none 0 0, .int .i64 0, .int .i64 0, .bool false, .string { data := #[] }, .float .f64 0] 52)) := by
    have k1 := Kid_new w4 1 none 0 0 ⟨#[]⟩ (vInt 1)
    have k2 := Kid_new (w4.alloc (bxX 1 none 0 0 ⟨#[]⟩ (vInt 1))) 1 none 0 0 ⟨#[]⟩ (vInt 0)
    have k3 := Kid_new ((w4.alloc (bxX 1 none 0 0 ⟨#[]⟩ (vInt 1))).alloc (bxX 1 none 0 0 ⟨#[]⟩ (vInt 0))) 2 none 0 0 ⟨#[97]⟩ vZero
    have k4 := fdk_one (((w4.alloc (bxX 1 none 0 0 ⟨#[]⟩ (vInt 1))).alloc (bxX 1 none 0 0 ⟨#[]⟩ (vInt 0))).alloc (bxX 2 none 0 0 ⟨#[97]⟩ vZero)) ⟨#[97]⟩ 1 none 0 0 vZero
    have s1 : (w4.alloc (bxX 1 none 0 0 ⟨#[]⟩ (vInt 1))).heap.size = w4.heap.size + 1 := by simp
    have s2 : ((w4.alloc (bxX 1 none 0 0 ⟨#[]⟩ (vInt 1))).alloc (bxX 1 none 0 0 ⟨#[]⟩ (vInt 0))).heap.size = w4.heap.size + 1 + 1 := by simp
    have s3 : (((w4.alloc (bxX 1 none 0 0 ⟨#[]⟩ (vInt 1))).alloc (bxX 1 none 0 0 ⟨#[]⟩ (vInt 0))).alloc (bxX 2 none 0 0 ⟨#[97]⟩ vZero)).heap.size = w4.heap.size + 1 + 1 + 1 := by simp
    rw [s1] at k2
    rw [s2] at k3
    rw [s3] at k4
    exact ⟨bt (bt (bt (bt B4 (alloc1 _ _)) (alloc1 _ _)) (alloc1 _ _)) (alloc1 _ _), ((k1.below (alloc1 _ _)).below (alloc1 _ _)).below (alloc1 _ _), (k2.below (alloc1 _ _)).below (alloc1 _ _), k3.below (alloc1 _ _), k4⟩
  generalize (((w4.alloc (.cells #[.int .i64 1, .slice none 0 0, .string { data := #[] }, .int .i64 1, .int .i64 1, .bool false, .string { data := #[] }, .float .f64 0] 27)).alloc (.cells #[.int .i64 1, .slice none 0 0, .string { data := #[] }, .int .i64 1, .int .i64 0, .bool false, .string { data := #[] }, .float .f64 0] 27)).alloc (.cells #[.int .i64 2, .slice none 0 0, .string { data := #[97] }, .int .i64 0, .int .i64 0, .bool false, .string { data := #[] }, .float .f64 0] 27)).alloc (.cells #[.string { data := #[97] }, .int .i64 1, .slice none 0 0, .int .i64 0, .int .i64 0, .bool false, .string { data := #[] }, .float .f64 0] 52) = wA at *
  obtain ⟨g, hg⟩ : ∃ g, g = w4.heap.size + 1 + 1 + 1 := ⟨_, rfl⟩
  rw [← hg] at haw ⊢
  have hwb : w.heap.size ≤ w4.heap.size := B4.size
  generalize w4.heap.size = b at *
  clear B4
  have hall := fun (W : World) (h : AwB w b g W) => (show AwB w b g W ∧ (W.cell? ⟨b, 0, none⟩ = some (.int .i64 1) ∧ W.cell? ⟨b, 1, none⟩ = some (.slice none 0 0) ∧ W.cell? ⟨b, 2, none⟩ = some (.string ⟨#[]⟩) ∧ W.cell? ⟨b, 3, none⟩ = some (.int .i64 1) ∧ W.cell? ⟨b, 4, none⟩ = some (.int .i64 1) ∧ W.cell? ⟨b, 5, none⟩ = some (.bool false) ∧ W.cell? ⟨b, 6, none⟩ = some (.string ⟨#[]⟩) ∧ W.cell? ⟨b, 7, none⟩ = some (.float .f64 0)) ∧ (W.cell? ⟨(b + 1), 0, none⟩ = some (.int .i64 1) ∧ W.cell? ⟨(b + 1), 1, none⟩ = some (.slice none 0 0) ∧ W.cell? ⟨(b + 1), 2, none⟩ = some (.string ⟨#[]⟩) ∧ W.cell? ⟨(b + 1), 3, none⟩ = some (.int .i64 1) ∧ W.cell? ⟨(b + 1), 4, none⟩ = some (.int .i64 0) ∧ W.cell? ⟨(b + 1), 5, none⟩ = some (.bool false) ∧ W.cell? ⟨(b + 1), 6, none⟩ = some (.string ⟨#[]⟩) ∧ W.cell? ⟨(b + 1), 7, none⟩ = some (.float .f64 0)) ∧ (W.cell? ⟨(b + 1 + 1), 0, none⟩ = some (.int .i64 2) ∧ W.cell? ⟨(b + 1 + 1), 1, none⟩ = some (.slice none 0 0) ∧ W.cell? ⟨(b + 1 + 1), 2, none⟩ = some (.string ⟨#[97]⟩) ∧ W.cell? ⟨(b + 1 + 1), 3, none⟩ = some (.int .i64 0) ∧ W.cell? ⟨(b + 1 + 1), 4, none⟩ = some (.int .i64 0) ∧ W.cell? ⟨(b + 1 + 1), 5, none⟩ = some (.bool false) ∧ W.cell? ⟨(b + 1 + 1), 6, none⟩ = some (.string ⟨#[]⟩) ∧ W.cell? ⟨(b + 1 + 1), 7, none⟩ = some (.float .f64 0)) from ⟨h, h.one, h.nou, h.fld⟩)
  have HALL := Lib.hid hall
  clear hall
  have HAW := Lib.hid haw
  have HG := Lib.hid (And.intro hg hwb)
  clear haw hg hwb
  obtain ⟨-, ⟨p0, p1, p2, p3, p4, p5, p6, p7⟩, -, ⟨q0, q1, q2, q3, q4, q5, q6, q7⟩⟩ := HALL.out _ HAW.out
  go_wp2_with fail
  refine (on.out 4 _ _ _ _).mono ?_
  rintro e w5 ⟨rfl, hb5⟩
  have x1 := (ExE.two 4 (ExE.leaf wA fA rfl) (ExE.leaf wA (conX (vInt 1)) rfl)).below hb5
  have a1 := (HAW.out.below (alloc1 _ _)).below hb5
  have X1 := Lib.hid x1
  have A1 := Lib.hid a1
  clear x1 a1 hb5 p0 p1 p2 p3 p4 p5 p6 p7 q0 q1 q2 q3 q4 q5 q6 q7
  go_wp2_with fail
  refine (i2.out _).mono ?_
  rintro e w6 ⟨rfl, hb6⟩
  have x1 := X1.out.below hb6
  have a1 := A1.out.below hb6
  clear X1 A1 hb6
  have X1 := Lib.hid (x1.below (alloc1 w6 (.cells #[.int .i64 (vInt 2).k, .int .i64 (vInt 2).i, .bool (vInt 2).b, .string (vInt 2).s, .float .f64 (vInt 2).n] 25)))
  have A1 := Lib.hid (a1.below (alloc1 w6 (.cells #[.int .i64 (vInt 2).k, .int .i64 (vInt 2).i, .bool (vInt 2).b, .string (vInt 2).s, .float .f64 (vInt 2).n] 25)))
  clear x1 a1
  go_wp2_with fail
  refine (eval_at X1.out A1.out.fds (vlk_one w6 (vInt 2)) (ok_two (in64_lit (by decide) (by decide)) (ok_fA 4) (ok_con (ok_int (in64_lit (by decide) (by decide))))) (fun v hv => by rcases List.mem_cons.1 hv with rfl | hv; exact ok_int (in64_lit (by decide) (by decide)); cases hv) aw_1).mono ?_
  rintro e w7 ⟨rfl, hb7⟩
  have A7 := Lib.hid (A1.out.below hb7)
  clear X1 A1 hb7
  go_upto_region 5 with fail
  have hawc : AwC w b g w7.heap.size (w7.alloc (.cells #[.int .i64 (vInt 3).k, .int .i64 (vInt 3).i, .bool (vInt 3).b, .string (vInt 3).s, .float .f64 (vInt 3).n] 25)) := ⟨A7.out.below (alloc1 _ _), Bx.new w7 (vInt 3)⟩
  clear A7
  generalize hw8 : w7.alloc (.cells #[.int .i64 (vInt 3).k, .int .i64 (vInt 3).i, .bool (vInt 3).b, .string (vInt 3).s, .float .f64 (vInt 3).n] 25) = w8 at *
  clear hw8
  generalize w7.heap.size = b5 at *
  have hall := fun (W : World) (h : AwC w b g b5 W) => (show AwC w b g b5 W ∧ (W.cell? ⟨b, 0, none⟩ = some (.int .i64 1) ∧ W.cell? ⟨b, 1, none⟩ = some (.slice none 0 0) ∧ W.cell? ⟨b, 2, none⟩ = some (.string ⟨#[]⟩) ∧ W.cell? ⟨b, 3, none⟩ = some (.int .i64 1) ∧ W.cell? ⟨b, 4, none⟩ = some (.int .i64 1) ∧ W.cell? ⟨b, 5, none⟩ = some (.bool false) ∧ W.cell? ⟨b, 6, none⟩ = some (.string ⟨#[]⟩) ∧ W.cell? ⟨b, 7, none⟩ = some (.float .f64 0)) ∧ (W.cell? ⟨(b + 1), 0, none⟩ = some (.int .i64 1) ∧ W.cell? ⟨(b + 1), 1, none⟩ = some (.slice none 0 0) ∧ W.cell? ⟨(b + 1), 2, none⟩ = some (.string ⟨#[]⟩) ∧ W.cell? ⟨(b + 1), 3, none⟩ = some (.int .i64 1) ∧ W.cell? ⟨(b + 1), 4, none⟩ = some (.int .i64 0) ∧ W.cell? ⟨(b + 1), 5, none⟩ = some (.bool false) ∧ W.cell? ⟨(b + 1), 6, none⟩ = some (.string ⟨#[]⟩) ∧ W.cell? ⟨(b + 1), 7, none⟩ = some (.float .f64 0)) ∧ (W.cell? ⟨(b + 1 + 1), 0, none⟩ = some (.int .i64 2) ∧ W.cell? ⟨(b + 1 + 1), 1, none⟩ = some (.slice none 0 0) ∧ W.cell? ⟨(b + 1 + 1), 2, none⟩ = some (.string ⟨#[97]⟩) ∧ W.cell? ⟨(b + 1 + 1), 3, none⟩ = some (.int .i64 0) ∧ W.cell? ⟨(b + 1 + 1), 4, none⟩ = some (.int .i64 0) ∧ W.cell? ⟨(b + 1 + 1), 5, none⟩ = some (.bool false) ∧ W.cell? ⟨(b + 1 + 1), 6, none⟩ = some (.string ⟨#[]⟩) ∧ W.cell? ⟨(b + 1 + 1), 7, none⟩ = some (.float .f64 0)) from ⟨h, h.aw.one, h.aw.nou, h.aw.fld⟩)
  clear HALL HAW
  have HALL := Lib.hid hall
  have n15 := Lib.hid rNum15
  clear hall
  have hS0 : (fun W => AwC w b g b5 W ∧ (W.cell? ⟨b, 0, none⟩ = some (.int .i64 1) ∧ W.cell? ⟨b, 1, none⟩ = some (.slice none 0 0) ∧ W.cell? ⟨b, 2, none⟩ = some (.string ⟨#[]⟩) ∧ W.cell? ⟨b, 3, none⟩ = some (.int .i64 1) ∧ W.cell? ⟨b, 4, none⟩ = some (.int .i64 1) ∧ W.cell? ⟨b, 5, none⟩ = some (.bool false) ∧ W.cell? ⟨b, 6, none⟩ = some (.string ⟨#[]⟩) ∧ W.cell? ⟨b, 7, none⟩ = some (.float .f64 0)) ∧ (W.cell? ⟨(b + 1), 0, none⟩ = some (.int .i64 1) ∧ W.cell? ⟨(b + 1), 1, none⟩ = some (.slice none 0 0) ∧ W.cell? ⟨(b + 1), 2, none⟩ = some (.string ⟨#[]⟩) ∧ W.cell? ⟨(b + 1), 3, none⟩ = some (.int .i64 1) ∧ W.cell? ⟨(b + 1), 4, none⟩ = some (.int .i64 0) ∧ W.cell? ⟨(b + 1), 5, none⟩ = some (.bool false) ∧ W.cell? ⟨(b + 1), 6, none⟩ = some (.string ⟨#[]⟩) ∧ W.cell? ⟨(b + 1), 7, none⟩ = some (.float .f64 0)) ∧ (W.cell? ⟨(b + 1 + 1), 0, none⟩ = some (.int .i64 2) ∧ W.cell? ⟨(b + 1 + 1), 1, none⟩ = some (.slice none 0 0) ∧ W.cell? ⟨(b + 1 + 1), 2, none⟩ = some (.string ⟨#[97]⟩) ∧ W.cell? ⟨(b + 1 + 1), 3, none⟩ = some (.int .i64 0) ∧ W.cell? ⟨(b + 1 + 1), 4, none⟩ = some (.int .i64 0) ∧ W.cell? ⟨(b + 1 + 1), 5, none⟩ = some (.bool false) ∧ W.cell? ⟨(b + 1 + 1), 6, none⟩ = some (.string ⟨#[]⟩) ∧ W.cell? ⟨(b + 1 + 1), 7, none⟩ = some (.float .f64 0))) w8.drew := HALL.out _ (hawc.below (Below.refl _ _).drew)
  clear hawc
  refine wp_region_held_drew (S := (fun W => AwC w b g b5 W ∧ (W.cell? ⟨b, 0, none⟩ = some (.int .i64 1) ∧ W.cell? ⟨b, 1, none⟩ = some (.slice none 0 0) ∧ W.cell? ⟨b, 2, none⟩ = some (.string ⟨#[]⟩) ∧ W.cell? ⟨b, 3, none⟩ = some (.int .i64 1) ∧ W.cell? ⟨b, 4, none⟩ = some (.int .i64 1) ∧ W.cell? ⟨b, 5, none⟩ = some (.bool false) ∧ W.cell? ⟨b, 6, none⟩ = some (.string ⟨#[]⟩) ∧ W.cell? ⟨b, 7, none⟩ = some (.float .f64 0)) ∧ (W.cell? ⟨(b + 1), 0, none⟩ = some (.int .i64 1) ∧ W.cell? ⟨(b + 1), 1, none⟩ = some (.slice none 0 0) ∧ W.cell? ⟨(b + 1), 2, none⟩ = some (.string ⟨#[]⟩) ∧ W.cell? ⟨(b + 1), 3, none⟩ = some (.int .i64 1) ∧ W.cell? ⟨(b + 1), 4, none⟩ = some (.int .i64 0) ∧ W.cell? ⟨(b + 1), 5, none⟩ = some (.bool false) ∧ W.cell? ⟨(b + 1), 6, none⟩ = some (.string ⟨#[]⟩) ∧ W.cell? ⟨(b + 1), 7, none⟩ = some (.float .f64 0)) ∧ (W.cell? ⟨(b + 1 + 1), 0, none⟩ = some (.int .i64 2) ∧ W.cell? ⟨(b + 1 + 1), 1, none⟩ = some (.slice none 0 0) ∧ W.cell? ⟨(b + 1 + 1), 2, none⟩ = some (.string ⟨#[97]⟩) ∧ W.cell? ⟨(b + 1 + 1), 3, none⟩ = some (.int .i64 0) ∧ W.cell? ⟨(b + 1 + 1), 4, none⟩ = some (.int .i64 0) ∧ W.cell? ⟨(b + 1 + 1), 5, none⟩ = some (.bool false) ∧ W.cell? ⟨(b + 1 + 1), 6, none⟩ = some (.string ⟨#[]⟩) ∧ W.cell? ⟨(b + 1 + 1), 7, none⟩ = some (.float .f64 0)))) (by kernel_rfl) (hS0) (fun hHeld => ?_)
  refine wpAnyH_take (i := 0) (oi := ?oi341) (v := ?v341) ?hi341 (by kernel_rfl) (by kernel_rfl) (by kernel_rfl) ?hQ341 (Or.inl ⟨?hw341, ?hy341⟩) (by assumption) ?rest341
  case hi341 => (simp only [gA, gB, gC]; rfl)
  case hQ341 => exact fun _ _ _ h => h
  case hw341 => rfl
  case hy341 => (intro w hSw; (try dsimp only at hSw); go_simp; try with_reducible rfl)
  (try simp only [Act.put, sA, sB, sC])
  refine wpAnyH_take (i := 5) (oi := ?oi342) (v := ?v342) ?hi342 (by kernel_rfl) (by kernel_rfl) (by kernel_rfl) ?hQ342 (Or.inl ⟨?hw342, ?hy342⟩) (by assumption) ?rest342
  case hi342 => (simp only [gA, gB, gC]; rfl)
  case hQ342 => exact fun _ _ _ h => h
  case hw342 => rfl
  case hy342 => (intro w hSw; (try dsimp only at hSw); go_simp; try with_reducible rfl)
  (try simp only [Act.put, sA, sB, sC])
  refine wpAnyH_ready (rs := [1]) (by kernel_rfl) (by simp) ?_
  refine AllReadyH.cons (o := ?o343) ?ho343 (fun K hK => ?st343) AllReadyH.nil
  case ho343 => (simp only [gA, gB, gC]; rfl)
  go_simp
  refine (n15.out _).mono ?_; rintro e wN ⟨rfl, hN⟩
  refine hK.out _ _ ?_ (fun hHeld => ?_)
  · (try dsimp only); exact HALL.out _ (hHeld.1.below hN)
  clear hK K
  (try simp only [Act.put, sA, sB, sC])
  refine wpAnyH_ready (rs := [2]) (by kernel_rfl) (by simp) ?_
  refine AllReadyH.cons (o := ?o344) ?ho344 (fun K hK => ?st344) AllReadyH.nil
  case ho344 => (simp only [gA, gB, gC]; rfl)
  go_simp
  refine (cn.out (vNum 4609434218613702656) _).mono ?_; rintro e wC ⟨rfl, hC⟩
  refine hK.out _ _ ?_ (fun hHeld => ?_)
  · (try dsimp only); exact HALL.out _ (hHeld.1.below hC)
  clear hK K
  (try simp only [Act.put, sA, sB, sC])
  refine wpAnyH_ready (rs := [3]) (by kernel_rfl) (by simp) ?_
  refine AllReadyH.cons (o := ?o345) ?ho345 (fun K hK => ?st345) AllReadyH.nil
  case ho345 => (simp only [gA, gB, gC]; rfl)
  go_simp
  refine hK.out _ _ ?_ (fun hHeld => ?_)
  · (try dsimp only); exact HALL.out _ (hHeld.1.below (alloc1 _ _))
  clear hK K
  (try simp only [Act.put, sA, sB, sC])
  have X2 := Lib.hid (two_at fA (conX (vNum 4609434218613702656)) 9 hHeld.1 (ExE.leaf _ fA rfl) (ExE.leaf _ (conX (vNum 4609434218613702656)) rfl))
  refine wpAnyH_ready (rs := [4]) (by kernel_rfl) (by simp) ?_
  refine AllReadyH.cons (o := ?o346) ?ho346 (fun K hK => ?st346) AllReadyH.nil
  case ho346 => (simp only [gA, gB, gC]; rfl)
  go_simp
  refine (on.out 9 _ _ _ _).mono ?_; rintro e wO ⟨rfl, hO⟩; have X3 := Lib.hid (X2.out.below hO)
  refine hK.out _ _ ?_ (fun hHeld => ?_)
  · (try dsimp only); exact HALL.out _ (hHeld.1.below hO)
  clear hK K
  (try simp only [Act.put, sA, sB, sC])
  refine wpAnyH_ready (rs := [6]) (by kernel_rfl) (by simp) ?_
  refine AllReadyH.cons (o := ?o347) ?ho347 (fun K hK => ?st347) AllReadyH.nil
  case ho347 => (simp only [gA, gB, gC]; rfl)
  go_simp
  refine (check_at X3.out hHeld.1.aw.fds aw_2).mono ?_; rintro e wK ⟨rfl, hK2⟩
  refine hK.out _ _ ?_ (fun hHeld => ?_)
  · (try dsimp only); exact HALL.out _ (hHeld.1.below hK2)
  clear hK K
  (try simp only [Act.put, sA, sB, sC])
  refine wpAnyH_take (i := 7) (oi := ?oi348) (v := ?v348) ?hi348 (by kernel_rfl) (by kernel_rfl) (by kernel_rfl) ?hQ348 (Or.inl ⟨?hw348, ?hy348⟩) (by assumption) ?rest348
  case hi348 => (simp only [gA, gB, gC]; rfl)
  case hQ348 => exact fun _ _ _ h => h
  case hw348 => rfl
  case hy348 => (intro w hSw; (try dsimp only at hSw); go_simp; try with_reducible rfl)
  (try simp only [Act.put, sA, sB, sC])
  refine wpAnyH_take (i := 8) (oi := ?oi349) (v := ?v349) ?hi349 (by kernel_rfl) (by kernel_rfl) (by kernel_rfl) ?hQ349 (Or.inl ⟨?hw349, ?hy349⟩) (by assumption) ?rest349
  case hi349 => (simp only [gA, gB, gC]; rfl)
  case hQ349 => exact fun _ _ _ h => h
  case hw349 => rfl
  case hy349 => (intro w hSw; (try dsimp only at hSw); go_simp; try with_reducible rfl)
  (try simp only [Act.put, sA, sB, sC])
  refine wpAnyH_take (i := 9) (oi := ?oi350) (v := ?v350) ?hi350 (by kernel_rfl) (by kernel_rfl) (by kernel_rfl) ?hQ350 (Or.inl ⟨?hw350, ?hy350⟩) (by assumption) ?rest350
  case hi350 => (simp only [gA, gB, gC]; rfl)
  case hQ350 => exact fun _ _ _ h => h
  case hw350 => rfl
  case hy350 => (intro w hSw; (try dsimp only at hSw); go_simp; try with_reducible rfl)
  (try simp only [Act.put, sA, sB, sC])
  refine wpAnyH_take (i := 10) (oi := ?oi351) (v := ?v351) ?hi351 (by kernel_rfl) (by kernel_rfl) (by kernel_rfl) ?hQ351 (Or.inl ⟨?hw351, ?hy351⟩) (by assumption) ?rest351
  case hi351 => (simp only [gA, gB, gC]; rfl)
  case hQ351 => exact fun _ _ _ h => h
  case hw351 => rfl
  case hy351 => (intro w hSw; (try dsimp only at hSw); go_simp; try with_reducible rfl)
  (try simp only [Act.put, sA, sB, sC])
  refine wpAnyH_take (i := 11) (oi := ?oi352) (v := ?v352) ?hi352 (by kernel_rfl) (by kernel_rfl) (by kernel_rfl) ?hQ352 (Or.inl ⟨?hw352, ?hy352⟩) (by assumption) ?rest352
  case hi352 => (simp only [gA, gB, gC]; rfl)
  case hQ352 => exact fun _ _ _ h => h
  case hw352 => rfl
  case hy352 => (intro w hSw; (try dsimp only at hSw); go_simp; try with_reducible rfl)
  (try simp only [Act.put, sA, sB, sC])
  refine wpAnyH_done (by kernel_rfl) ?_ _
  go_upto_region 6 with fail
  have HW := Lib.hid hHeld.1
  clear hHeld hS0
  go_cut [9, 10] from 41 to 55 (fun s9 s10 wx => ∃ b9, s9 = .pointer (some ⟨b9, 0, none⟩) ∧ s10 = .int .i64 0 ∧ AwC w b g b5 wx ∧ Bx wx b9 (vTruth false))
  case first =>
    refine wp_region_held_drew (S := (fun W => AwC w b g b5 W ∧ (W.cell? ⟨b, 0, none⟩ = some (.int .i64 1) ∧ W.cell? ⟨b, 1, none⟩ = some (.slice none 0 0) ∧ W.cell? ⟨b, 2, none⟩ = some (.string ⟨#[]⟩) ∧ W.cell? ⟨b, 3, none⟩ = some (.int .i64 1) ∧ W.cell? ⟨b, 4, none⟩ = some (.int .i64 1) ∧ W.cell? ⟨b, 5, none⟩ = some (.bool false) ∧ W.cell? ⟨b, 6, none⟩ = some (.string ⟨#[]⟩) ∧ W.cell? ⟨b, 7, none⟩ = some (.float .f64 0)) ∧ (W.cell? ⟨(b + 1), 0, none⟩ = some (.int .i64 1) ∧ W.cell? ⟨(b + 1), 1, none⟩ = some (.slice none 0 0) ∧ W.cell? ⟨(b + 1), 2, none⟩ = some (.string ⟨#[]⟩) ∧ W.cell? ⟨(b + 1), 3, none⟩ = some (.int .i64 1) ∧ W.cell? ⟨(b + 1), 4, none⟩ = some (.int .i64 0) ∧ W.cell? ⟨(b + 1), 5, none⟩ = some (.bool false) ∧ W.cell? ⟨(b + 1), 6, none⟩ = some (.string ⟨#[]⟩) ∧ W.cell? ⟨(b + 1), 7, none⟩ = some (.float .f64 0)) ∧ (W.cell? ⟨(b + 1 + 1), 0, none⟩ = some (.int .i64 2) ∧ W.cell? ⟨(b + 1 + 1), 1, none⟩ = some (.slice none 0 0) ∧ W.cell? ⟨(b + 1 + 1), 2, none⟩ = some (.string ⟨#[97]⟩) ∧ W.cell? ⟨(b + 1 + 1), 3, none⟩ = some (.int .i64 0) ∧ W.cell? ⟨(b + 1 + 1), 4, none⟩ = some (.int .i64 0) ∧ W.cell? ⟨(b + 1 + 1), 5, none⟩ = some (.bool false) ∧ W.cell? ⟨(b + 1 + 1), 6, none⟩ = some (.string ⟨#[]⟩) ∧ W.cell? ⟨(b + 1 + 1), 7, none⟩ = some (.float .f64 0)))) (by kernel_rfl) (HALL.out _ (HW.out.below (Below.refl _ _).drew)) (fun hHeld => ?_)
    generalize wK.drew = wD at *
    refine wpAnyH_take (i := 2) (oi := ?oi1) (v := ?v1) ?hi1 (by kernel_rfl) (by kernel_rfl) (by kernel_rfl) ?hQ1 (Or.inl ⟨?hw1, ?hy1⟩) (by assumption) ?rest1
    case hi1 => (simp only [gA, gB, gC]; rfl)
    case hQ1 => exact fun _ _ _ h => h
    case hw1 => rfl
    case hy1 => (intro w hSw; (try dsimp only at hSw); go_simp; try with_reducible rfl)
    (try simp only [Act.put, sA, sB, sC])
    refine wpAnyH_take (i := 3) (oi := ?oi2) (v := ?v2) ?hi2 (by kernel_rfl) (by kernel_rfl) (by kernel_rfl) ?hQ2 (Or.inl ⟨?hw2, ?hy2⟩) (by assumption) ?rest2
    case hi2 => (simp only [gA, gB, gC]; rfl)
    case hQ2 => exact fun _ _ _ h => h
    case hw2 => rfl
    case hy2 => (intro w hSw; (try dsimp only at hSw); go_simp; try with_reducible rfl)
    (try simp only [Act.put, sA, sB, sC])
    refine wpAnyH_take (i := 6) (oi := ?oi3) (v := ?v3) ?hi3 (by kernel_rfl) (by kernel_rfl) (by kernel_rfl) ?hQ3 (Or.inl ⟨?hw3, ?hy3⟩) (by assumption) ?rest3
    case hi3 => (simp only [gA, gB, gC]; rfl)
    case hQ3 => exact fun _ _ _ h => h
    case hw3 => rfl
    case hy3 => (intro w hSw; (try dsimp only at hSw); go_simp; try with_reducible rfl)
    (try simp only [Act.put, sA, sB, sC])
    refine wpAnyH_ready (rs := [0, 4, 15]) (by kernel_rfl) (by simp) ?_
    refine AllReadyH.cons (o := ?o4) ?ho4 (fun K hK => ?st4) (AllReadyH.cons (o := ?o5) ?ho5 (fun K hK => ?st5) (AllReadyH.cons (o := ?o6) ?ho6 (fun K hK => ?st6) AllReadyH.nil))
    case ho4 => (simp only [gA, gB, gC]; rfl)
    case ho5 => (simp only [gA, gB, gC]; rfl)
    case ho6 => (simp only [gA, gB, gC]; rfl)
    ·
     go_simp
     refine (tf.out _).mono ?_; rintro e w0 ⟨rfl, h0⟩
     refine hK.out _ _ ?_ (fun hHeld => ?_)
     · (try dsimp only); exact HALL.out _ (hHeld.1.below h0)
     clear hK K
     (try simp only [Act.put, sA, sB, sC])
     refine wpAnyH_ready (rs := [1, 4, 15]) (by kernel_rfl) (by simp) ?_
     refine AllReadyH.cons (o := ?o7) ?ho7 (fun K hK => ?st7) (AllReadyH.cons (o := ?o8) ?ho8 (fun K hK => ?st8) (AllReadyH.cons (o := ?o9) ?ho9 (fun K hK => ?st9) AllReadyH.nil))
     case ho7 => (simp only [gA, gB, gC]; rfl)
     case ho8 => (simp only [gA, gB, gC]; rfl)
     case ho9 => (simp only [gA, gB, gC]; rfl)
     ·
      go_simp
      refine (cn.out (vTruth false) _).mono ?_; rintro e w1 ⟨rfl, h1⟩
      refine hK.out _ _ ?_ (fun hHeld => ?_)
      · (try dsimp only); exact HALL.out _ (hHeld.1.below h1)
      clear hK K
      (try simp only [Act.put, sA, sB, sC])
      refine wpAnyH_ready (rs := [4, 15]) (by kernel_rfl) (by simp) ?_
      refine AllReadyH.cons (o := ?o10) ?ho10 (fun K hK => ?st10) (AllReadyH.cons (o := ?o11) ?ho11 (fun K hK => ?st11) AllReadyH.nil)
      case ho10 => (simp only [gA, gB, gC]; rfl)
      case ho11 => (simp only [gA, gB, gC]; rfl)
      ·
       go_simp
       refine hK.out _ _ ?_ (fun hHeld => ?_)
       · (try dsimp only); exact HALL.out _ (hHeld.1.below (alloc1 _ _))
       clear hK K
       (try simp only [Act.put, sA, sB, sC])
       have y_F4 := two_at (conX (vInt 1)) (conX (vInt 0)) 7 hHeld.1 (ExE.leaf _ (conX (vInt 1)) rfl) (ExE.leaf _ (conX (vInt 0)) rfl)
       (try simp only [World.size_alloc] at y_F4)
       have F4 := Lib.hid y_F4
       clear y_F4
       refine wpAnyH_ready (rs := [5, 15]) (by kernel_rfl) (by simp) ?_
       refine AllReadyH.cons (o := ?o12) ?ho12 (fun K hK => ?st12) (AllReadyH.cons (o := ?o13) ?ho13 (fun K hK => ?st13) AllReadyH.nil)
       case ho12 => (simp only [gA, gB, gC]; rfl)
       case ho13 => (simp only [gA, gB, gC]; rfl)
       ·
        go_simp
        refine (on.out 7 _ _ _ _).mono ?_; rintro e w3 ⟨rfl, h3⟩; have y_F4 := F4.out.below (h3); clear F4; have F4 := Lib.hid y_F4; clear y_F4
        refine hK.out _ _ ?_ (fun hHeld => ?_)
        · (try dsimp only); exact HALL.out _ (hHeld.1.below h3)
        clear hK K
        (try simp only [Act.put, sA, sB, sC])
        refine wpAnyH_ready (rs := [7, 15]) (by kernel_rfl) (by simp) ?_
        refine AllReadyH.cons (o := ?o14) ?ho14 (fun K hK => ?st14) (AllReadyH.cons (o := ?o15) ?ho15 (fun K hK => ?st15) AllReadyH.nil)
        case ho14 => (simp only [gA, gB, gC]; rfl)
        case ho15 => (simp only [gA, gB, gC]; rfl)
        ·
         go_simp
         refine hK.out _ _ ?_ (fun hHeld => ?_)
         · (try dsimp only); exact HALL.out _ (hHeld.1.below (alloc1 _ _))
         clear hK K
         (try simp only [Act.put, sA, sB, sC])
         have y_F7 := two_at (opX 7 [conX (vInt 1), conX (vInt 0)]) (conX (vInt 1)) 8 hHeld.1 F4.out (ExE.leaf _ (conX (vInt 1)) rfl)
         (try simp only [World.size_alloc] at y_F7)
         clear F4
         have F7 := Lib.hid y_F7
         clear y_F7
         refine wpAnyH_ready (rs := [8, 15]) (by kernel_rfl) (by simp) ?_
         refine AllReadyH.cons (o := ?o16) ?ho16 (fun K hK => ?st16) (AllReadyH.cons (o := ?o17) ?ho17 (fun K hK => ?st17) AllReadyH.nil)
         case ho16 => (simp only [gA, gB, gC]; rfl)
         case ho17 => (simp only [gA, gB, gC]; rfl)
         ·
          go_simp
          refine (on.out 8 _ _ _ _).mono ?_; rintro e w5 ⟨rfl, h5⟩; have y_F7 := F7.out.below (h5); clear F7; have F7 := Lib.hid y_F7; clear y_F7
          refine hK.out _ _ ?_ (fun hHeld => ?_)
          · (try dsimp only); exact HALL.out _ (hHeld.1.below h5)
          clear hK K
          (try simp only [Act.put, sA, sB, sC])
          refine wpAnyH_ready (rs := [9, 15]) (by kernel_rfl) (by simp) ?_
          refine AllReadyH.cons (o := ?o18) ?ho18 (fun K hK => ?st18) (AllReadyH.cons (o := ?o19) ?ho19 (fun K hK => ?st19) AllReadyH.nil)
          case ho18 => (simp only [gA, gB, gC]; rfl)
          case ho19 => (simp only [gA, gB, gC]; rfl)
          ·
           go_simp
           refine hK.out _ _ ?_ (fun hHeld => ?_)
           · (try dsimp only); exact HALL.out _ (hHeld.1.below (alloc1 _ _))
           clear hK K
           (try simp only [Act.put, sA, sB, sC])
           have y_F9 := two_at (conX (vTruth false)) nought 10 hHeld.1 (ExE.leaf _ (conX (vTruth false)) rfl) F7.out
           (try simp only [World.size_alloc] at y_F9)
           clear F7
           have F9 := Lib.hid y_F9
           clear y_F9
           refine wpAnyH_ready (rs := [10, 15]) (by kernel_rfl) (by simp) ?_
           refine AllReadyH.cons (o := ?o20) ?ho20 (fun K hK => ?st20) (AllReadyH.cons (o := ?o21) ?ho21 (fun K hK => ?st21) AllReadyH.nil)
           case ho20 => (simp only [gA, gB, gC]; rfl)
           case ho21 => (simp only [gA, gB, gC]; rfl)
           ·
            go_simp
            refine (on.out 10 _ _ _ _).mono ?_; rintro e w7 ⟨rfl, h7⟩; have y_F9 := F9.out.below (h7); clear F9; have F9 := Lib.hid y_F9; clear y_F9
            refine hK.out _ _ ?_ (fun hHeld => ?_)
            · (try dsimp only); exact HALL.out _ (hHeld.1.below h7)
            clear hK K
            (try simp only [Act.put, sA, sB, sC])
            refine wpAnyH_ready (rs := [11, 15]) (by kernel_rfl) (by simp) ?_
            refine AllReadyH.cons (o := ?o22) ?ho22 (fun K hK => ?st22) (AllReadyH.cons (o := ?o23) ?ho23 (fun K hK => ?st23) AllReadyH.nil)
            case ho22 => (simp only [gA, gB, gC]; rfl)
            case ho23 => (simp only [gA, gB, gC]; rfl)
            ·
             go_simp
             refine (eval_at F9.out (fdk_none _) (vlk_none _) (ok_two (in64_lit (by decide) (by decide)) (ok_con (ok_truth false)) (ok_two (in64_lit (by decide) (by decide)) (ok_two (in64_lit (by decide) (by decide)) (ok_con (ok_int (in64_lit (by decide) (by decide)))) (ok_con (ok_int (in64_lit (by decide) (by decide))))) (ok_con (ok_int (in64_lit (by decide) (by decide)))))) (fun v hv => by cases hv) aw_3).mono ?_; rintro e w8 ⟨rfl, h8⟩; clear F9
             refine hK.out _ _ ?_ (fun hHeld => ?_)
             · (try dsimp only); exact HALL.out _ (hHeld.1.below h8)
             clear hK K
             (try simp only [Act.put, sA, sB, sC])
             refine wpAnyH_take (i := 12) (oi := ?oi24) (v := ?v24) ?hi24 (by kernel_rfl) (by kernel_rfl) (by kernel_rfl) ?hQ24 (Or.inl ⟨?hw24, ?hy24⟩) (by assumption) ?rest24
             case hi24 => (simp only [gA, gB, gC]; rfl)
             case hQ24 => exact fun _ _ _ h => h
             case hw24 => rfl
             case hy24 => (intro w hSw; (try dsimp only at hSw); go_simp; try with_reducible rfl)
             (try simp only [Act.put, sA, sB, sC])
             refine wpAnyH_take (i := 13) (oi := ?oi25) (v := ?v25) ?hi25 (by kernel_rfl) (by kernel_rfl) (by kernel_rfl) ?hQ25 (Or.inl ⟨?hw25, ?hy25⟩) (by assumption) ?rest25
             case hi25 => (simp only [gA, gB, gC]; rfl)
             case hQ25 => exact fun _ _ _ h => h
             case hw25 => rfl
             case hy25 => (intro w hSw; (try dsimp only at hSw); go_simp; try with_reducible rfl)
             (try simp only [Act.put, sA, sB, sC])
             refine wpAnyH_take (i := 14) (oi := ?oi26) (v := ?v26) ?hi26 (by kernel_rfl) (by kernel_rfl) (by kernel_rfl) ?hQ26 (Or.inl ⟨?hw26, ?hy26⟩) (by assumption) ?rest26
             case hi26 => (simp only [gA, gB, gC]; rfl)
             case hQ26 => exact fun _ _ _ h => h
             case hw26 => rfl
             case hy26 => (intro w hSw; (try dsimp only at hSw); go_simp; try with_reducible rfl)
             (try simp only [Act.put, sA, sB, sC])
             refine wpAnyH_ready (rs := [15]) (by kernel_rfl) (by simp) ?_
             refine AllReadyH.cons (o := ?o27) ?ho27 (fun K hK => ?st27) AllReadyH.nil
             case ho27 => (simp only [gA, gB, gC]; rfl)
             go_simp
             have hPre := hHeld; have y_B := And.intro hHeld.1.aw.glt (Nat.ne_of_lt hHeld.1.lt5); (try simp only [World.size_alloc] at y_B); have B9 := Lib.hid y_B; clear y_B
             refine hK.out _ _ ?_ (fun hHeld => ?_)
             · (try dsimp only); exact HALL.out _ (hHeld.1.below (alloc1 _ _))
             clear hK K
             (try simp only [Act.put, sA, sB, sC])
             refine wpAnyH_ready (rs := [16]) (by kernel_rfl) (by simp) ?_
             refine AllReadyH.cons (o := ?o28) ?ho28 (fun K hK => ?st28) AllReadyH.nil
             case ho28 => (simp only [gA, gB, gC]; rfl)
             go_simp
             refine hK.out _ _ ?_ (fun hHeld => ?_)
             · (try dsimp only); exact HALL.out _ (hPre.1.below (alloc1 _ _))
             clear hK K
             (try simp only [Act.put, sA, sB, sC])
             refine wpAnyH_take (i := 17) (oi := ?oi29) (v := ?v29) ?hi29 (by kernel_rfl) (by kernel_rfl) (by kernel_rfl) ?hQ29 (Or.inl ⟨?hw29, ?hy29⟩) (by assumption) ?rest29
             case hi29 => (simp only [gA, gB, gC]; rfl)
             case hQ29 => exact fun _ _ _ h => h
             case hw29 => rfl
             case hy29 => (intro w hSw; (try dsimp only at hSw); go_simp; try with_reducible rfl)
             (try simp only [Act.put, sA, sB, sC])
             refine wpAnyH_done (by kernel_rfl) ?_ _
             go_wp2_with fail
             go_meet
             exact ⟨_, rfl, rfl, hHeld.1, Bx.new _ (vTruth false)⟩
            ·
             go_simp
             have hPre := hHeld; have y_B := And.intro hHeld.1.aw.glt (Nat.ne_of_lt hHeld.1.lt5); (try simp only [World.size_alloc] at y_B); have B9 := Lib.hid y_B; clear y_B
             refine hK.out _ _ ?_ (fun hHeld => ?_)
             · (try dsimp only); exact HALL.out _ (hHeld.1.below (alloc1 _ _))
             clear hK K
             (try simp only [Act.put, sA, sB, sC])
             have y_V9 := vb_at hHeld.1
             (try simp only [World.size_alloc] at y_V9)
             have V9 := Lib.hid y_V9
             clear y_V9
             have y_F9 := F9.out.below (bel_at hHeld.1)
             clear F9
             have F9 := Lib.hid y_F9
             clear y_F9
             refine wpAnyH_ready (rs := [11]) (by kernel_rfl) (by simp) ?_
             refine AllReadyH.cons (o := ?o30) ?ho30 (fun K hK => ?st30) AllReadyH.nil
             case ho30 => (simp only [gA, gB, gC]; rfl)
             go_simp
             refine (eval_at F9.out (fdk_none _) (vlk_none _) (ok_two (in64_lit (by decide) (by decide)) (ok_con (ok_truth false)) (ok_two (in64_lit (by decide) (by decide)) (ok_two (in64_lit (by decide) (by decide)) (ok_con (ok_int (in64_lit (by decide) (by decide)))) (ok_con (ok_int (in64_lit (by decide) (by decide))))) (ok_con (ok_int (in64_lit (by decide) (by decide)))))) (fun v hv => by cases hv) aw_3).mono ?_; rintro e w9 ⟨rfl, h9⟩; clear F9; have y_V9 := V9.out.below (h9); clear V9; have V9 := Lib.hid y_V9; clear y_V9
             refine hK.out _ _ ?_ (fun hHeld => ?_)
             · (try dsimp only); exact HALL.out _ (hHeld.1.below h9)
             clear hK K
             (try simp only [Act.put, sA, sB, sC])
             refine wpAnyH_take (i := 12) (oi := ?oi31) (v := ?v31) ?hi31 (by kernel_rfl) (by kernel_rfl) (by kernel_rfl) ?hQ31 (Or.inl ⟨?hw31, ?hy31⟩) (by assumption) ?rest31
             case hi31 => (simp only [gA, gB, gC]; rfl)
             case hQ31 => exact fun _ _ _ h => h
             case hw31 => rfl
             case hy31 => (intro w hSw; (try dsimp only at hSw); go_simp; try with_reducible rfl)
             (try simp only [Act.put, sA, sB, sC])
             refine wpAnyH_take (i := 13) (oi := ?oi32) (v := ?v32) ?hi32 (by kernel_rfl) (by kernel_rfl) (by kernel_rfl) ?hQ32 (Or.inl ⟨?hw32, ?hy32⟩) (by assumption) ?rest32
             case hi32 => (simp only [gA, gB, gC]; rfl)
             case hQ32 => exact fun _ _ _ h => h
             case hw32 => rfl
             case hy32 => (intro w hSw; (try dsimp only at hSw); go_simp; try with_reducible rfl)
             (try simp only [Act.put, sA, sB, sC])
             refine wpAnyH_take (i := 14) (oi := ?oi33) (v := ?v33) ?hi33 (by kernel_rfl) (by kernel_rfl) (by kernel_rfl) ?hQ33 (Or.inl ⟨?hw33, ?hy33⟩) (by assumption) ?rest33
             case hi33 => (simp only [gA, gB, gC]; rfl)
             case hQ33 => exact fun _ _ _ h => h
             case hw33 => rfl
             case hy33 => (intro w hSw; (try dsimp only at hSw); go_simp; try with_reducible rfl)
             (try simp only [Act.put, sA, sB, sC])
             obtain ⟨u0, u1, u2, u3, u4, e0, e1, e2, e3, e4, ef⟩ := V9.out.open
             refine wpAnyH_ready (rs := [16]) (by kernel_rfl) (by simp) ?_
             refine AllReadyH.cons (o := ?o34) ?ho34 (fun K hK => ?st34) AllReadyH.nil
             case ho34 => (simp only [gA, gB, gC]; rfl)
             go_simp
             refine hK.out _ _ ?_ (fun hHeld => ?_)
             · (try dsimp only); exact HALL.out _ (AwC.set5 hHeld.1 B9.out.1 HG.out.1 HG.out.2 B9.out.2 _ _ _ _ _)
             clear hK K
             (try simp only [Act.put, sA, sB, sC])
             refine wpAnyH_take (i := 17) (oi := ?oi35) (v := ?v35) ?hi35 (by kernel_rfl) (by kernel_rfl) (by kernel_rfl) ?hQ35 (Or.inl ⟨?hw35, ?hy35⟩) (by assumption) ?rest35
             case hi35 => (simp only [gA, gB, gC]; rfl)
             case hQ35 => exact fun _ _ _ h => h
             case hw35 => rfl
             case hy35 => (intro w hSw; (try dsimp only at hSw); go_simp; try with_reducible rfl)
             (try simp only [Act.put, sA, sB, sC])
             refine wpAnyH_done (by kernel_rfl) ?_ _
             go_wp2_with fail
             go_meet
             exact ⟨_, rfl, rfl, hHeld.1, bx_set (r := vTruth false) e0 e1 e2 e3 e4⟩
           ·
            go_simp
            have hPre := hHeld; have y_B := And.intro hHeld.1.aw.glt (Nat.ne_of_lt hHeld.1.lt5); (try simp only [World.size_alloc] at y_B); have B9 := Lib.hid y_B; clear y_B
            refine hK.out _ _ ?_ (fun hHeld => ?_)
            · (try dsimp only); exact HALL.out _ (hHeld.1.below (alloc1 _ _))
            clear hK K
            (try simp only [Act.put, sA, sB, sC])
            have y_V9 := vb_at hHeld.1
            (try simp only [World.size_alloc] at y_V9)
            have V9 := Lib.hid y_V9
            clear y_V9
            have y_F9 := F9.out.below (bel_at hHeld.1)
            clear F9
            have F9 := Lib.hid y_F9
            clear y_F9
            refine wpAnyH_ready (rs := [10]) (by kernel_rfl) (by simp) ?_
            refine AllReadyH.cons (o := ?o36) ?ho36 (fun K hK => ?st36) AllReadyH.nil
            case ho36 => (simp only [gA, gB, gC]; rfl)
            go_simp
            refine (on.out 10 _ _ _ _).mono ?_; rintro e w8 ⟨rfl, h8⟩; have y_F9 := F9.out.below (h8); clear F9; have F9 := Lib.hid y_F9; clear y_F9; have y_V9 := V9.out.below (h8); clear V9; have V9 := Lib.hid y_V9; clear y_V9
            refine hK.out _ _ ?_ (fun hHeld => ?_)
            · (try dsimp only); exact HALL.out _ (hHeld.1.below h8)
            clear hK K
            (try simp only [Act.put, sA, sB, sC])
            refine wpAnyH_ready (rs := [11]) (by kernel_rfl) (by simp) ?_
            refine AllReadyH.cons (o := ?o37) ?ho37 (fun K hK => ?st37) AllReadyH.nil
            case ho37 => (simp only [gA, gB, gC]; rfl)
            go_simp
            refine (eval_at F9.out (fdk_none _) (vlk_none _) (ok_two (in64_lit (by decide) (by decide)) (ok_con (ok_truth false)) (ok_two (in64_lit (by decide) (by decide)) (ok_two (in64_lit (by decide) (by decide)) (ok_con (ok_int (in64_lit (by decide) (by decide)))) (ok_con (ok_int (in64_lit (by decide) (by decide))))) (ok_con (ok_int (in64_lit (by decide) (by decide)))))) (fun v hv => by cases hv) aw_3).mono ?_; rintro e w9 ⟨rfl, h9⟩; clear F9; have y_V9 := V9.out.below (h9); clear V9; have V9 := Lib.hid y_V9; clear y_V9
            refine hK.out _ _ ?_ (fun hHeld => ?_)
            · (try dsimp only); exact HALL.out _ (hHeld.1.below h9)
            clear hK K
            (try simp only [Act.put, sA, sB, sC])
            refine wpAnyH_take (i := 12) (oi := ?oi38) (v := ?v38) ?hi38 (by kernel_rfl) (by kernel_rfl) (by kernel_rfl) ?hQ38 (Or.inl ⟨?hw38, ?hy38⟩) (by assumption) ?rest38
            case hi38 => (simp only [gA, gB, gC]; rfl)
            case hQ38 => exact fun _ _ _ h => h
            case hw38 => rfl
            case hy38 => (intro w hSw; (try dsimp only at hSw); go_simp; try with_reducible rfl)
            (try simp only [Act.put, sA, sB, sC])
            refine wpAnyH_take (i := 13) (oi := ?oi39) (v := ?v39) ?hi39 (by kernel_rfl) (by kernel_rfl) (by kernel_rfl) ?hQ39 (Or.inl ⟨?hw39, ?hy39⟩) (by assumption) ?rest39
            case hi39 => (simp only [gA, gB, gC]; rfl)
            case hQ39 => exact fun _ _ _ h => h
            case hw39 => rfl
            case hy39 => (intro w hSw; (try dsimp only at hSw); go_simp; try with_reducible rfl)
            (try simp only [Act.put, sA, sB, sC])
            refine wpAnyH_take (i := 14) (oi := ?oi40) (v := ?v40) ?hi40 (by kernel_rfl) (by kernel_rfl) (by kernel_rfl) ?hQ40 (Or.inl ⟨?hw40, ?hy40⟩) (by assumption) ?rest40
            case hi40 => (simp only [gA, gB, gC]; rfl)
            case hQ40 => exact fun _ _ _ h => h
            case hw40 => rfl
            case hy40 => (intro w hSw; (try dsimp only at hSw); go_simp; try with_reducible rfl)
            (try simp only [Act.put, sA, sB, sC])
            obtain ⟨u0, u1, u2, u3, u4, e0, e1, e2, e3, e4, ef⟩ := V9.out.open
            refine wpAnyH_ready (rs := [16]) (by kernel_rfl) (by simp) ?_
            refine AllReadyH.cons (o := ?o41) ?ho41 (fun K hK => ?st41) AllReadyH.nil
            case ho41 => (simp only [gA, gB, gC]; rfl)
            go_simp
            refine hK.out _ _ ?_ (fun hHeld => ?_)
            · (try dsimp only); exact HALL.out _ (AwC.set5 hHeld.1 B9.out.1 HG.out.1 HG.out.2 B9.out.2 _ _ _ _ _)
            clear hK K
            (try simp only [Act.put, sA, sB, sC])
            refine wpAnyH_take (i := 17) (oi := ?oi42) (v := ?v42) ?hi42 (by kernel_rfl) (by kernel_rfl) (by kernel_rfl) ?hQ42 (Or.inl ⟨?hw42, ?hy42⟩) (by assumption) ?rest42
            case hi42 => (simp only [gA, gB, gC]; rfl)
            case hQ42 => exact fun _ _ _ h => h
            case hw42 => rfl
            case hy42 => (intro w hSw; (try dsimp only at hSw); go_simp; try with_reducible rfl)
            (try simp only [Act.put, sA, sB, sC])
            refine wpAnyH_done (by kernel_rfl) ?_ _
            go_wp2_with fail
            go_meet
            exact ⟨_, rfl, rfl, hHeld.1, bx_set (r := vTruth false) e0 e1 e2 e3 e4⟩
          ·
           go_simp
           have hPre := hHeld; have y_B := And.intro hHeld.1.aw.glt (Nat.ne_of_lt hHeld.1.lt5); (try simp only [World.size_alloc] at y_B); have B9 := Lib.hid y_B; clear y_B
           refine hK.out _ _ ?_ (fun hHeld => ?_)
           · (try dsimp only); exact HALL.out _ (hHeld.1.below (alloc1 _ _))
           clear hK K
           (try simp only [Act.put, sA, sB, sC])
           have y_V9 := vb_at hHeld.1
           (try simp only [World.size_alloc] at y_V9)
           have V9 := Lib.hid y_V9
           clear y_V9
           have y_F7 := F7.out.below (bel_at hHeld.1)
           clear F7
           have F7 := Lib.hid y_F7
           clear y_F7
           refine wpAnyH_ready (rs := [9]) (by kernel_rfl) (by simp) ?_
           refine AllReadyH.cons (o := ?o43) ?ho43 (fun K hK => ?st43) AllReadyH.nil
           case ho43 => (simp only [gA, gB, gC]; rfl)
           go_simp
           refine hK.out _ _ ?_ (fun hHeld => ?_)
           · (try dsimp only); exact HALL.out _ (hHeld.1.below (alloc1 _ _))
           clear hK K
           (try simp only [Act.put, sA, sB, sC])
           have y_F9 := two_at (conX (vTruth false)) nought 10 hHeld.1 (ExE.leaf _ (conX (vTruth false)) rfl) F7.out
           (try simp only [World.size_alloc] at y_F9)
           clear F7
           have F9 := Lib.hid y_F9
           clear y_F9
           have y_V9 := V9.out.below (bel_at hHeld.1)
           clear V9
           have V9 := Lib.hid y_V9
           clear y_V9
           refine wpAnyH_ready (rs := [10]) (by kernel_rfl) (by simp) ?_
           refine AllReadyH.cons (o := ?o44) ?ho44 (fun K hK => ?st44) AllReadyH.nil
           case ho44 => (simp only [gA, gB, gC]; rfl)
           go_simp
           refine (on.out 10 _ _ _ _).mono ?_; rintro e w8 ⟨rfl, h8⟩; have y_V9 := V9.out.below (h8); clear V9; have V9 := Lib.hid y_V9; clear y_V9; have y_F9 := F9.out.below (h8); clear F9; have F9 := Lib.hid y_F9; clear y_F9
           refine hK.out _ _ ?_ (fun hHeld => ?_)
           · (try dsimp only); exact HALL.out _ (hHeld.1.below h8)
           clear hK K
           (try simp only [Act.put, sA, sB, sC])
           refine wpAnyH_ready (rs := [11]) (by kernel_rfl) (by simp) ?_
           refine AllReadyH.cons (o := ?o45) ?ho45 (fun K hK => ?st45) AllReadyH.nil
           case ho45 => (simp only [gA, gB, gC]; rfl)
           go_simp
           refine (eval_at F9.out (fdk_none _) (vlk_none _) (ok_two (in64_lit (by decide) (by decide)) (ok_con (ok_truth false)) (ok_two (in64_lit (by decide) (by decide)) (ok_two (in64_lit (by decide) (by decide)) (ok_con (ok_int (in64_lit (by decide) (by decide)))) (ok_con (ok_int (in64_lit (by decide) (by decide))))) (ok_con (ok_int (in64_lit (by decide) (by decide)))))) (fun v hv => by cases hv) aw_3).mono ?_; rintro e w9 ⟨rfl, h9⟩; clear F9; have y_V9 := V9.out.below (h9); clear V9; have V9 := Lib.hid y_V9; clear y_V9
           refine hK.out _ _ ?_ (fun hHeld => ?_)
           · (try dsimp only); exact HALL.out _ (hHeld.1.below h9)
           clear hK K
           (try simp only [Act.put, sA, sB, sC])
           refine wpAnyH_take (i := 12) (oi := ?oi46) (v := ?v46) ?hi46 (by kernel_rfl) (by kernel_rfl) (by kernel_rfl) ?hQ46 (Or.inl ⟨?hw46, ?hy46⟩) (by assumption) ?rest46
           case hi46 => (simp only [gA, gB, gC]; rfl)
           case hQ46 => exact fun _ _ _ h => h
           case hw46 => rfl
           case hy46 => (intro w hSw; (try dsimp only at hSw); go_simp; try with_reducible rfl)
           (try simp only [Act.put, sA, sB, sC])
           refine wpAnyH_take (i := 13) (oi := ?oi47) (v := ?v47) ?hi47 (by kernel_rfl) (by kernel_rfl) (by kernel_rfl) ?hQ47 (Or.inl ⟨?hw47, ?hy47⟩) (by assumption) ?rest47
           case hi47 => (simp only [gA, gB, gC]; rfl)
           case hQ47 => exact fun _ _ _ h => h
           case hw47 => rfl
           case hy47 => (intro w hSw; (try dsimp only at hSw); go_simp; try with_reducible rfl)
           (try simp only [Act.put, sA, sB, sC])
           refine wpAnyH_take (i := 14) (oi := ?oi48) (v := ?v48) ?hi48 (by kernel_rfl) (by kernel_rfl) (by kernel_rfl) ?hQ48 (Or.inl ⟨?hw48, ?hy48⟩) (by assumption) ?rest48
           case hi48 => (simp only [gA, gB, gC]; rfl)
           case hQ48 => exact fun _ _ _ h => h
           case hw48 => rfl
           case hy48 => (intro w hSw; (try dsimp only at hSw); go_simp; try with_reducible rfl)
           (try simp only [Act.put, sA, sB, sC])
           obtain ⟨u0, u1, u2, u3, u4, e0, e1, e2, e3, e4, ef⟩ := V9.out.open
           refine wpAnyH_ready (rs := [16]) (by kernel_rfl) (by simp) ?_
           refine AllReadyH.cons (o := ?o49) ?ho49 (fun K hK => ?st49) AllReadyH.nil
           case ho49 => (simp only [gA, gB, gC]; rfl)
           go_simp
           refine hK.out _ _ ?_ (fun hHeld => ?_)
           · (try dsimp only); exact HALL.out _ (AwC.set5 hHeld.1 B9.out.1 HG.out.1 HG.out.2 B9.out.2 _ _ _ _ _)
           clear hK K
           (try simp only [Act.put, sA, sB, sC])
           refine wpAnyH_take (i := 17) (oi := ?oi50) (v := ?v50) ?hi50 (by kernel_rfl) (by kernel_rfl) (by kernel_rfl) ?hQ50 (Or.inl ⟨?hw50, ?hy50⟩) (by assumption) ?rest50
           case hi50 => (simp only [gA, gB, gC]; rfl)
           case hQ50 => exact fun _ _ _ h => h
           case hw50 => rfl
           case hy50 => (intro w hSw; (try dsimp only at hSw); go_simp; try with_reducible rfl)
           (try simp only [Act.put, sA, sB, sC])
           refine wpAnyH_done (by kernel_rfl) ?_ _
           go_wp2_with fail
           go_meet
           exact ⟨_, rfl, rfl, hHeld.1, bx_set (r := vTruth false) e0 e1 e2 e3 e4⟩
         ·
          go_simp
          have hPre := hHeld; have y_B := And.intro hHeld.1.aw.glt (Nat.ne_of_lt hHeld.1.lt5); (try simp only [World.size_alloc] at y_B); have B9 := Lib.hid y_B; clear y_B
          refine hK.out _ _ ?_ (fun hHeld => ?_)
          · (try dsimp only); exact HALL.out _ (hHeld.1.below (alloc1 _ _))
          clear hK K
          (try simp only [Act.put, sA, sB, sC])
          have y_V9 := vb_at hHeld.1
          (try simp only [World.size_alloc] at y_V9)
          have V9 := Lib.hid y_V9
          clear y_V9
          have y_F7 := F7.out.below (bel_at hHeld.1)
          clear F7
          have F7 := Lib.hid y_F7
          clear y_F7
          refine wpAnyH_ready (rs := [8]) (by kernel_rfl) (by simp) ?_
          refine AllReadyH.cons (o := ?o51) ?ho51 (fun K hK => ?st51) AllReadyH.nil
          case ho51 => (simp only [gA, gB, gC]; rfl)
          go_simp
          refine (on.out 8 _ _ _ _).mono ?_; rintro e w6 ⟨rfl, h6⟩; have y_F7 := F7.out.below (h6); clear F7; have F7 := Lib.hid y_F7; clear y_F7; have y_V9 := V9.out.below (h6); clear V9; have V9 := Lib.hid y_V9; clear y_V9
          refine hK.out _ _ ?_ (fun hHeld => ?_)
          · (try dsimp only); exact HALL.out _ (hHeld.1.below h6)
          clear hK K
          (try simp only [Act.put, sA, sB, sC])
          refine wpAnyH_ready (rs := [9]) (by kernel_rfl) (by simp) ?_
          refine AllReadyH.cons (o := ?o52) ?ho52 (fun K hK => ?st52) AllReadyH.nil
          case ho52 => (simp only [gA, gB, gC]; rfl)
          go_simp
          refine hK.out _ _ ?_ (fun hHeld => ?_)
          · (try dsimp only); exact HALL.out _ (hHeld.1.below (alloc1 _ _))
          clear hK K
          (try simp only [Act.put, sA, sB, sC])
          have y_F9 := two_at (conX (vTruth false)) nought 10 hHeld.1 (ExE.leaf _ (conX (vTruth false)) rfl) F7.out
          (try simp only [World.size_alloc] at y_F9)
          clear F7
          have F9 := Lib.hid y_F9
          clear y_F9
          have y_V9 := V9.out.below (bel_at hHeld.1)
          clear V9
          have V9 := Lib.hid y_V9
          clear y_V9
          refine wpAnyH_ready (rs := [10]) (by kernel_rfl) (by simp) ?_
          refine AllReadyH.cons (o := ?o53) ?ho53 (fun K hK => ?st53) AllReadyH.nil
          case ho53 => (simp only [gA, gB, gC]; rfl)
          go_simp
          refine (on.out 10 _ _ _ _).mono ?_; rintro e w8 ⟨rfl, h8⟩; have y_V9 := V9.out.below (h8); clear V9; have V9 := Lib.hid y_V9; clear y_V9; have y_F9 := F9.out.below (h8); clear F9; have F9 := Lib.hid y_F9; clear y_F9
          refine hK.out _ _ ?_ (fun hHeld => ?_)
          · (try dsimp only); exact HALL.out _ (hHeld.1.below h8)
          clear hK K
          (try simp only [Act.put, sA, sB, sC])
          refine wpAnyH_ready (rs := [11]) (by kernel_rfl) (by simp) ?_
          refine AllReadyH.cons (o := ?o54) ?ho54 (fun K hK => ?st54) AllReadyH.nil
          case ho54 => (simp only [gA, gB, gC]; rfl)
          go_simp
          refine (eval_at F9.out (fdk_none _) (vlk_none _) (ok_two (in64_lit (by decide) (by decide)) (ok_con (ok_truth false)) (ok_two (in64_lit (by decide) (by decide)) (ok_two (in64_lit (by decide) (by decide)) (ok_con (ok_int (in64_lit (by decide) (by decide)))) (ok_con (ok_int (in64_lit (by decide) (by decide))))) (ok_con (ok_int (in64_lit (by decide) (by decide)))))) (fun v hv => by cases hv) aw_3).mono ?_; rintro e w9 ⟨rfl, h9⟩; clear F9; have y_V9 := V9.out.below (h9); clear V9; have V9 := Lib.hid y_V9; clear y_V9
          refine hK.out _ _ ?_ (fun hHeld => ?_)
          · (try dsimp only); exact HALL.out _ (hHeld.1.below h9)
          clear hK K
          (try simp only [Act.put, sA, sB, sC])
          refine wpAnyH_take (i := 12) (oi := ?oi55) (v := ?v55) ?hi55 (by kernel_rfl) (by kernel_rfl) (by kernel_rfl) ?hQ55 (Or.inl ⟨?hw55, ?hy55⟩) (by assumption) ?rest55
          case hi55 => (simp only [gA, gB, gC]; rfl)
          case hQ55 => exact fun _ _ _ h => h
          case hw55 => rfl
          case hy55 => (intro w hSw; (try dsimp only at hSw); go_simp; try with_reducible rfl)
          (try simp only [Act.put, sA, sB, sC])
          refine wpAnyH_take (i := 13) (oi := ?oi56) (v := ?v56) ?hi56 (by kernel_rfl) (by kernel_rfl) (by kernel_rfl) ?hQ56 (Or.inl ⟨?hw56, ?hy56⟩) (by assumption) ?rest56
          case hi56 => (simp only [gA, gB, gC]; rfl)
          case hQ56 => exact fun _ _ _ h => h
          case hw56 => rfl
          case hy56 => (intro w hSw; (try dsimp only at hSw); go_simp; try with_reducible rfl)
          (try simp only [Act.put, sA, sB, sC])
          refine wpAnyH_take (i := 14) (oi := ?oi57) (v := ?v57) ?hi57 (by kernel_rfl) (by kernel_rfl) (by kernel_rfl) ?hQ57 (Or.inl ⟨?hw57, ?hy57⟩) (by assumption) ?rest57
          case hi57 => (simp only [gA, gB, gC]; rfl)
          case hQ57 => exact fun _ _ _ h => h
          case hw57 => rfl
          case hy57 => (intro w hSw; (try dsimp only at hSw); go_simp; try with_reducible rfl)
          (try simp only [Act.put, sA, sB, sC])
          obtain ⟨u0, u1, u2, u3, u4, e0, e1, e2, e3, e4, ef⟩ := V9.out.open
          refine wpAnyH_ready (rs := [16]) (by kernel_rfl) (by simp) ?_
          refine AllReadyH.cons (o := ?o58) ?ho58 (fun K hK => ?st58) AllReadyH.nil
          case ho58 => (simp only [gA, gB, gC]; rfl)
          go_simp
          refine hK.out _ _ ?_ (fun hHeld => ?_)
          · (try dsimp only); exact HALL.out _ (AwC.set5 hHeld.1 B9.out.1 HG.out.1 HG.out.2 B9.out.2 _ _ _ _ _)
          clear hK K
          (try simp only [Act.put, sA, sB, sC])
          refine wpAnyH_take (i := 17) (oi := ?oi59) (v := ?v59) ?hi59 (by kernel_rfl) (by kernel_rfl) (by kernel_rfl) ?hQ59 (Or.inl ⟨?hw59, ?hy59⟩) (by assumption) ?rest59
          case hi59 => (simp only [gA, gB, gC]; rfl)
          case hQ59 => exact fun _ _ _ h => h
          case hw59 => rfl
          case hy59 => (intro w hSw; (try dsimp only at hSw); go_simp; try with_reducible rfl)
          (try simp only [Act.put, sA, sB, sC])
          refine wpAnyH_done (by kernel_rfl) ?_ _
          go_wp2_with fail
          go_meet
          exact ⟨_, rfl, rfl, hHeld.1, bx_set (r := vTruth false) e0 e1 e2 e3 e4⟩
        ·
         go_simp
         have hPre := hHeld; have y_B := And.intro hHeld.1.aw.glt (Nat.ne_of_lt hHeld.1.lt5); (try simp only [World.size_alloc] at y_B); have B9 := Lib.hid y_B; clear y_B
         refine hK.out _ _ ?_ (fun hHeld => ?_)
         · (try dsimp only); exact HALL.out _ (hHeld.1.below (alloc1 _ _))
         clear hK K
         (try simp only [Act.put, sA, sB, sC])
         have y_V9 := vb_at hHeld.1
         (try simp only [World.size_alloc] at y_V9)
         have V9 := Lib.hid y_V9
         clear y_V9
         have y_F4 := F4.out.below (bel_at hHeld.1)
         clear F4
         have F4 := Lib.hid y_F4
         clear y_F4
         refine wpAnyH_ready (rs := [7]) (by kernel_rfl) (by simp) ?_
         refine AllReadyH.cons (o := ?o60) ?ho60 (fun K hK => ?st60) AllReadyH.nil
         case ho60 => (simp only [gA, gB, gC]; rfl)
         go_simp
         refine hK.out _ _ ?_ (fun hHeld => ?_)
         · (try dsimp only); exact HALL.out _ (hHeld.1.below (alloc1 _ _))
         clear hK K
         (try simp only [Act.put, sA, sB, sC])
         have y_F7 := two_at (opX 7 [conX (vInt 1), conX (vInt 0)]) (conX (vInt 1)) 8 hHeld.1 F4.out (ExE.leaf _ (conX (vInt 1)) rfl)
         (try simp only [World.size_alloc] at y_F7)
         clear F4
         have F7 := Lib.hid y_F7
         clear y_F7
         have y_V9 := V9.out.below (bel_at hHeld.1)
         clear V9
         have V9 := Lib.hid y_V9
         clear y_V9
         refine wpAnyH_ready (rs := [8]) (by kernel_rfl) (by simp) ?_
         refine AllReadyH.cons (o := ?o61) ?ho61 (fun K hK => ?st61) AllReadyH.nil
         case ho61 => (simp only [gA, gB, gC]; rfl)
         go_simp
         refine (on.out 8 _ _ _ _).mono ?_; rintro e w6 ⟨rfl, h6⟩; have y_V9 := V9.out.below (h6); clear V9; have V9 := Lib.hid y_V9; clear y_V9; have y_F7 := F7.out.below (h6); clear F7; have F7 := Lib.hid y_F7; clear y_F7
         refine hK.out _ _ ?_ (fun hHeld => ?_)
         · (try dsimp only); exact HALL.out _ (hHeld.1.below h6)
         clear hK K
         (try simp only [Act.put, sA, sB, sC])
         refine wpAnyH_ready (rs := [9]) (by kernel_rfl) (by simp) ?_
         refine AllReadyH.cons (o := ?o62) ?ho62 (fun K hK => ?st62) AllReadyH.nil
         case ho62 => (simp only [gA, gB, gC]; rfl)
         go_simp
         refine hK.out _ _ ?_ (fun hHeld => ?_)
         · (try dsimp only); exact HALL.out _ (hHeld.1.below (alloc1 _ _))
         clear hK K
         (try simp only [Act.put, sA, sB, sC])
         have y_F9 := two_at (conX (vTruth false)) nought 10 hHeld.1 (ExE.leaf _ (conX (vTruth false)) rfl) F7.out
         (try simp only [World.size_alloc] at y_F9)
         clear F7
         have F9 := Lib.hid y_F9
         clear y_F9
         have y_V9 := V9.out.below (bel_at hHeld.1)
         clear V9
         have V9 := Lib.hid y_V9
         clear y_V9
         refine wpAnyH_ready (rs := [10]) (by kernel_rfl) (by simp) ?_
         refine AllReadyH.cons (o := ?o63) ?ho63 (fun K hK => ?st63) AllReadyH.nil
         case ho63 => (simp only [gA, gB, gC]; rfl)
         go_simp
         refine (on.out 10 _ _ _ _).mono ?_; rintro e w8 ⟨rfl, h8⟩; have y_V9 := V9.out.below (h8); clear V9; have V9 := Lib.hid y_V9; clear y_V9; have y_F9 := F9.out.below (h8); clear F9; have F9 := Lib.hid y_F9; clear y_F9
         refine hK.out _ _ ?_ (fun hHeld => ?_)
         · (try dsimp only); exact HALL.out _ (hHeld.1.below h8)
         clear hK K
         (try simp only [Act.put, sA, sB, sC])
         refine wpAnyH_ready (rs := [11]) (by kernel_rfl) (by simp) ?_
         refine AllReadyH.cons (o := ?o64) ?ho64 (fun K hK => ?st64) AllReadyH.nil
         case ho64 => (simp only [gA, gB, gC]; rfl)
         go_simp
         refine (eval_at F9.out (fdk_none _) (vlk_none _) (ok_two (in64_lit (by decide) (by decide)) (ok_con (ok_truth false)) (ok_two (in64_lit (by decide) (by decide)) (ok_two (in64_lit (by decide) (by decide)) (ok_con (ok_int (in64_lit (by decide) (by decide)))) (ok_con (ok_int (in64_lit (by decide) (by decide))))) (ok_con (ok_int (in64_lit (by decide) (by decide)))))) (fun v hv => by cases hv) aw_3).mono ?_; rintro e w9 ⟨rfl, h9⟩; clear F9; have y_V9 := V9.out.below (h9); clear V9; have V9 := Lib.hid y_V9; clear y_V9
         refine hK.out _ _ ?_ (fun hHeld => ?_)
         · (try dsimp only); exact HALL.out _ (hHeld.1.below h9)
         clear hK K
         (try simp only [Act.put, sA, sB, sC])
         refine wpAnyH_take (i := 12) (oi := ?oi65) (v := ?v65) ?hi65 (by kernel_rfl) (by kernel_rfl) (by kernel_rfl) ?hQ65 (Or.inl ⟨?hw65, ?hy65⟩) (by assumption) ?rest65
         case hi65 => (simp only [gA, gB, gC]; rfl)
         case hQ65 => exact fun _ _ _ h => h
         case hw65 => rfl
         case hy65 => (intro w hSw; (try dsimp only at hSw); go_simp; try with_reducible rfl)
         (try simp only [Act.put, sA, sB, sC])
         refine wpAnyH_take (i := 13) (oi := ?oi66) (v := ?v66) ?hi66 (by kernel_rfl) (by kernel_rfl) (by kernel_rfl) ?hQ66 (Or.inl ⟨?hw66, ?hy66⟩) (by assumption) ?rest66
         case hi66 => (simp only [gA, gB, gC]; rfl)
         case hQ66 => exact fun _ _ _ h => h
         case hw66 => rfl
         case hy66 => (intro w hSw; (try dsimp only at hSw); go_simp; try with_reducible rfl)
         (try simp only [Act.put, sA, sB, sC])
         refine wpAnyH_take (i := 14) (oi := ?oi67) (v := ?v67) ?hi67 (by kernel_rfl) (by kernel_rfl) (by kernel_rfl) ?hQ67 (Or.inl ⟨?hw67, ?hy67⟩) (by assumption) ?rest67
         case hi67 => (simp only [gA, gB, gC]; rfl)
         case hQ67 => exact fun _ _ _ h => h
         case hw67 => rfl
         case hy67 => (intro w hSw; (try dsimp only at hSw); go_simp; try with_reducible rfl)
         (try simp only [Act.put, sA, sB, sC])
         obtain ⟨u0, u1, u2, u3, u4, e0, e1, e2, e3, e4, ef⟩ := V9.out.open
         refine wpAnyH_ready (rs := [16]) (by kernel_rfl) (by simp) ?_
         refine AllReadyH.cons (o := ?o68) ?ho68 (fun K hK => ?st68) AllReadyH.nil
         case ho68 => (simp only [gA, gB, gC]; rfl)
         go_simp
         refine hK.out _ _ ?_ (fun hHeld => ?_)
         · (try dsimp only); exact HALL.out _ (AwC.set5 hHeld.1 B9.out.1 HG.out.1 HG.out.2 B9.out.2 _ _ _ _ _)
         clear hK K
         (try simp only [Act.put, sA, sB, sC])
         refine wpAnyH_take (i := 17) (oi := ?oi69) (v := ?v69) ?hi69 (by kernel_rfl) (by kernel_rfl) (by kernel_rfl) ?hQ69 (Or.inl ⟨?hw69, ?hy69⟩) (by assumption) ?rest69
         case hi69 => (simp only [gA, gB, gC]; rfl)
         case hQ69 => exact fun _ _ _ h => h
         case hw69 => rfl
         case hy69 => (intro w hSw; (try dsimp only at hSw); go_simp; try with_reducible rfl)
         (try simp only [Act.put, sA, sB, sC])
         refine wpAnyH_done (by kernel_rfl) ?_ _
         go_wp2_with fail
         go_meet
         exact ⟨_, rfl, rfl, hHeld.1, bx_set (r := vTruth false) e0 e1 e2 e3 e4⟩
       ·
        go_simp
        have hPre := hHeld; have y_B := And.intro hHeld.1.aw.glt (Nat.ne_of_lt hHeld.1.lt5); (try simp only [World.size_alloc] at y_B); have B9 := Lib.hid y_B; clear y_B
        refine hK.out _ _ ?_ (fun hHeld => ?_)
        · (try dsimp only); exact HALL.out _ (hHeld.1.below (alloc1 _ _))
        clear hK K
        (try simp only [Act.put, sA, sB, sC])
        have y_V9 := vb_at hHeld.1
        (try simp only [World.size_alloc] at y_V9)
        have V9 := Lib.hid y_V9
        clear y_V9
        have y_F4 := F4.out.below (bel_at hHeld.1)
        clear F4
        have F4 := Lib.hid y_F4
        clear y_F4
        refine wpAnyH_ready (rs := [5]) (by kernel_rfl) (by simp) ?_
        refine AllReadyH.cons (o := ?o70) ?ho70 (fun K hK => ?st70) AllReadyH.nil
        case ho70 => (simp only [gA, gB, gC]; rfl)
        go_simp
        refine (on.out 7 _ _ _ _).mono ?_; rintro e w4 ⟨rfl, h4⟩; have y_F4 := F4.out.below (h4); clear F4; have F4 := Lib.hid y_F4; clear y_F4; have y_V9 := V9.out.below (h4); clear V9; have V9 := Lib.hid y_V9; clear y_V9
        refine hK.out _ _ ?_ (fun hHeld => ?_)
        · (try dsimp only); exact HALL.out _ (hHeld.1.below h4)
        clear hK K
        (try simp only [Act.put, sA, sB, sC])
        refine wpAnyH_ready (rs := [7]) (by kernel_rfl) (by simp) ?_
        refine AllReadyH.cons (o := ?o71) ?ho71 (fun K hK => ?st71) AllReadyH.nil
        case ho71 => (simp only [gA, gB, gC]; rfl)
        go_simp
        refine hK.out _ _ ?_ (fun hHeld => ?_)
        · (try dsimp only); exact HALL.out _ (hHeld.1.below (alloc1 _ _))
        clear hK K
        (try simp only [Act.put, sA, sB, sC])
        have y_F7 := two_at (opX 7 [conX (vInt 1), conX (vInt 0)]) (conX (vInt 1)) 8 hHeld.1 F4.out (ExE.leaf _ (conX (vInt 1)) rfl)
        (try simp only [World.size_alloc] at y_F7)
        clear F4
        have F7 := Lib.hid y_F7
        clear y_F7
        have y_V9 := V9.out.below (bel_at hHeld.1)
        clear V9
        have V9 := Lib.hid y_V9
        clear y_V9
        refine wpAnyH_ready (rs := [8]) (by kernel_rfl) (by simp) ?_
        refine AllReadyH.cons (o := ?o72) ?ho72 (fun K hK => ?st72) AllReadyH.nil
        case ho72 => (simp only [gA, gB, gC]; rfl)
        go_simp
        refine (on.out 8 _ _ _ _).mono ?_; rintro e w6 ⟨rfl, h6⟩; have y_V9 := V9.out.below (h6); clear V9; have V9 := Lib.hid y_V9; clear y_V9; have y_F7 := F7.out.below (h6); clear F7; have F7 := Lib.hid y_F7; clear y_F7
        refine hK.out _ _ ?_ (fun hHeld => ?_)
        · (try dsimp only); exact HALL.out _ (hHeld.1.below h6)
        clear hK K
        (try simp only [Act.put, sA, sB, sC])
        refine wpAnyH_ready (rs := [9]) (by kernel_rfl) (by simp) ?_
        refine AllReadyH.cons (o := ?o73) ?ho73 (fun K hK => ?st73) AllReadyH.nil
        case ho73 => (simp only [gA, gB, gC]; rfl)
        go_simp
        refine hK.out _ _ ?_ (fun hHeld => ?_)
        · (try dsimp only); exact HALL.out _ (hHeld.1.below (alloc1 _ _))
        clear hK K
        (try simp only [Act.put, sA, sB, sC])
        have y_F9 := two_at (conX (vTruth false)) nought 10 hHeld.1 (ExE.leaf _ (conX (vTruth false)) rfl) F7.out
        (try simp only [World.size_alloc] at y_F9)
        clear F7
        have F9 := Lib.hid y_F9
        clear y_F9
        have y_V9 := V9.out.below (bel_at hHeld.1)
        clear V9
        have V9 := Lib.hid y_V9
        clear y_V9
        refine wpAnyH_ready (rs := [10]) (by kernel_rfl) (by simp) ?_
        refine AllReadyH.cons (o := ?o74) ?ho74 (fun K hK => ?st74) AllReadyH.nil
        case ho74 => (simp only [gA, gB, gC]; rfl)
        go_simp
        refine (on.out 10 _ _ _ _).mono ?_; rintro e w8 ⟨rfl, h8⟩; have y_V9 := V9.out.below (h8); clear V9; have V9 := Lib.hid y_V9; clear y_V9; have y_F9 := F9.out.below (h8); clear F9; have F9 := Lib.hid y_F9; clear y_F9
        refine hK.out _ _ ?_ (fun hHeld => ?_)
        · (try dsimp only); exact HALL.out _ (hHeld.1.below h8)
        clear hK K
        (try simp only [Act.put, sA, sB, sC])
        refine wpAnyH_ready (rs := [11]) (by kernel_rfl) (by simp) ?_
        refine AllReadyH.cons (o := ?o75) ?ho75 (fun K hK => ?st75) AllReadyH.nil
        case ho75 => (simp only [gA, gB, gC]; rfl)
        go_simp
        refine (eval_at F9.out (fdk_none _) (vlk_none _) (ok_two (in64_lit (by decide) (by decide)) (ok_con (ok_truth false)) (ok_two (in64_lit (by decide) (by decide)) (ok_two (in64_lit (by decide) (by decide)) (ok_con (ok_int (in64_lit (by decide) (by decide)))) (ok_con (ok_int (in64_lit (by decide) (by decide))))) (ok_con (ok_int (in64_lit (by decide) (by decide)))))) (fun v hv => by cases hv) aw_3).mono ?_; rintro e w9 ⟨rfl, h9⟩; clear F9; have y_V9 := V9.out.below (h9); clear V9; have V9 := Lib.hid y_V9; clear y_V9
        refine hK.out _ _ ?_ (fun hHeld => ?_)
        · (try dsimp only); exact HALL.out _ (hHeld.1.below h9)
        clear hK K
        (try simp only [Act.put, sA, sB, sC])
        refine wpAnyH_take (i := 12) (oi := ?oi76) (v := ?v76) ?hi76 (by kernel_rfl) (by kernel_rfl) (by kernel_rfl) ?hQ76 (Or.inl ⟨?hw76, ?hy76⟩) (by assumption) ?rest76
        case hi76 => (simp only [gA, gB, gC]; rfl)
        case hQ76 => exact fun _ _ _ h => h
        case hw76 => rfl
        case hy76 => (intro w hSw; (try dsimp only at hSw); go_simp; try with_reducible rfl)
        (try simp only [Act.put, sA, sB, sC])
        refine wpAnyH_take (i := 13) (oi := ?oi77) (v := ?v77) ?hi77 (by kernel_rfl) (by kernel_rfl) (by kernel_rfl) ?hQ77 (Or.inl ⟨?hw77, ?hy77⟩) (by assumption) ?rest77
        case hi77 => (simp only [gA, gB, gC]; rfl)
        case hQ77 => exact fun _ _ _ h => h
        case hw77 => rfl
        case hy77 => (intro w hSw; (try dsimp only at hSw); go_simp; try with_reducible rfl)
        (try simp only [Act.put, sA, sB, sC])
        refine wpAnyH_take (i := 14) (oi := ?oi78) (v := ?v78) ?hi78 (by kernel_rfl) (by kernel_rfl) (by kernel_rfl) ?hQ78 (Or.inl ⟨?hw78, ?hy78⟩) (by assumption) ?rest78
        case hi78 => (simp only [gA, gB, gC]; rfl)
        case hQ78 => exact fun _ _ _ h => h
        case hw78 => rfl
        case hy78 => (intro w hSw; (try dsimp only at hSw); go_simp; try with_reducible rfl)
        (try simp only [Act.put, sA, sB, sC])
        obtain ⟨u0, u1, u2, u3, u4, e0, e1, e2, e3, e4, ef⟩ := V9.out.open
        refine wpAnyH_ready (rs := [16]) (by kernel_rfl) (by simp) ?_
        refine AllReadyH.cons (o := ?o79) ?ho79 (fun K hK => ?st79) AllReadyH.nil
        case ho79 => (simp only [gA, gB, gC]; rfl)
        go_simp
        refine hK.out _ _ ?_ (fun hHeld => ?_)
        · (try dsimp only); exact HALL.out _ (AwC.set5 hHeld.1 B9.out.1 HG.out.1 HG.out.2 B9.out.2 _ _ _ _ _)
        clear hK K
        (try simp only [Act.put, sA, sB, sC])
        refine wpAnyH_take (i := 17) (oi := ?oi80) (v := ?v80) ?hi80 (by kernel_rfl) (by kernel_rfl) (by kernel_rfl) ?hQ80 (Or.inl ⟨?hw80, ?hy80⟩) (by assumption) ?rest80
        case hi80 => (simp only [gA, gB, gC]; rfl)
        case hQ80 => exact fun _ _ _ h => h
        case hw80 => rfl
        case hy80 => (intro w hSw; (try dsimp only at hSw); go_simp; try with_reducible rfl)
        (try simp only [Act.put, sA, sB, sC])
        refine wpAnyH_done (by kernel_rfl) ?_ _
        go_wp2_with fail
        go_meet
        exact ⟨_, rfl, rfl, hHeld.1, bx_set (r := vTruth false) e0 e1 e2 e3 e4⟩
      ·
       go_simp
       have hPre := hHeld; have y_B := And.intro hHeld.1.aw.glt (Nat.ne_of_lt hHeld.1.lt5); (try simp only [World.size_alloc] at y_B); have B9 := Lib.hid y_B; clear y_B
       refine hK.out _ _ ?_ (fun hHeld => ?_)
       · (try dsimp only); exact HALL.out _ (hHeld.1.below (alloc1 _ _))
       clear hK K
       (try simp only [Act.put, sA, sB, sC])
       have y_V9 := vb_at hHeld.1
       (try simp only [World.size_alloc] at y_V9)
       have V9 := Lib.hid y_V9
       clear y_V9
       refine wpAnyH_ready (rs := [4]) (by kernel_rfl) (by simp) ?_
       refine AllReadyH.cons (o := ?o81) ?ho81 (fun K hK => ?st81) AllReadyH.nil
       case ho81 => (simp only [gA, gB, gC]; rfl)
       go_simp
       refine hK.out _ _ ?_ (fun hHeld => ?_)
       · (try dsimp only); exact HALL.out _ (hHeld.1.below (alloc1 _ _))
       clear hK K
       (try simp only [Act.put, sA, sB, sC])
       have y_F4 := two_at (conX (vInt 1)) (conX (vInt 0)) 7 hHeld.1 (ExE.leaf _ (conX (vInt 1)) rfl) (ExE.leaf _ (conX (vInt 0)) rfl)
       (try simp only [World.size_alloc] at y_F4)
       have F4 := Lib.hid y_F4
       clear y_F4
       have y_V9 := V9.out.below (bel_at hHeld.1)
       clear V9
       have V9 := Lib.hid y_V9
       clear y_V9
       refine wpAnyH_ready (rs := [5]) (by kernel_rfl) (by simp) ?_
       refine AllReadyH.cons (o := ?o82) ?ho82 (fun K hK => ?st82) AllReadyH.nil
       case ho82 => (simp only [gA, gB, gC]; rfl)
       go_simp
       refine (on.out 7 _ _ _ _).mono ?_; rintro e w4 ⟨rfl, h4⟩; have y_V9 := V9.out.below (h4); clear V9; have V9 := Lib.hid y_V9; clear y_V9; have y_F4 := F4.out.below (h4); clear F4; have F4 := Lib.hid y_F4; clear y_F4
       refine hK.out _ _ ?_ (fun hHeld => ?_)
       · (try dsimp only); exact HALL.out _ (hHeld.1.below h4)
       clear hK K
       (try simp only [Act.put, sA, sB, sC])
       refine wpAnyH_ready (rs := [7]) (by kernel_rfl) (by simp) ?_
       refine AllReadyH.cons (o := ?o83) ?ho83 (fun K hK => ?st83) AllReadyH.nil
       case ho83 => (simp only [gA, gB, gC]; rfl)
       go_simp
       refine hK.out _ _ ?_ (fun hHeld => ?_)
       · (try dsimp only); exact HALL.out _ (hHeld.1.below (alloc1 _ _))
       clear hK K
       (try simp only [Act.put, sA, sB, sC])
       have y_F7 := two_at (opX 7 [conX (vInt 1), conX (vInt 0)]) (conX (vInt 1)) 8 hHeld.1 F4.out (ExE.leaf _ (conX (vInt 1)) rfl)
       (try simp only [World.size_alloc] at y_F7)
       clear F4
       have F7 := Lib.hid y_F7
       clear y_F7
       have y_V9 := V9.out.below (bel_at hHeld.1)
       clear V9
       have V9 := Lib.hid y_V9
       clear y_V9
       refine wpAnyH_ready (rs := [8]) (by kernel_rfl) (by simp) ?_
       refine AllReadyH.cons (o := ?o84) ?ho84 (fun K hK => ?st84) AllReadyH.nil
       case ho84 => (simp only [gA, gB, gC]; rfl)
       go_simp
       refine (on.out 8 _ _ _ _).mono ?_; rintro e w6 ⟨rfl, h6⟩; have y_V9 := V9.out.below (h6); clear V9; have V9 := Lib.hid y_V9; clear y_V9; have y_F7 := F7.out.below (h6); clear F7; have F7 := Lib.hid y_F7; clear y_F7
       refine hK.out _ _ ?_ (fun hHeld => ?_)
       · (try dsimp only); exact HALL.out _ (hHeld.1.below h6)
       clear hK K
       (try simp only [Act.put, sA, sB, sC])
       refine wpAnyH_ready (rs := [9]) (by kernel_rfl) (by simp) ?_
       refine AllReadyH.cons (o := ?o85) ?ho85 (fun K hK => ?st85) AllReadyH.nil
       case ho85 => (simp only [gA, gB, gC]; rfl)
       go_simp
       refine hK.out _ _ ?_ (fun hHeld => ?_)
       · (try dsimp only); exact HALL.out _ (hHeld.1.below (alloc1 _ _))
       clear hK K
       (try simp only [Act.put, sA, sB, sC])
       have y_F9 := two_at (conX (vTruth false)) nought 10 hHeld.1 (ExE.leaf _ (conX (vTruth false)) rfl) F7.out
       (try simp only [World.size_alloc] at y_F9)
       clear F7
       have F9 := Lib.hid y_F9
       clear y_F9
       have y_V9 := V9.out.below (bel_at hHeld.1)
       clear V9
       have V9 := Lib.hid y_V9
       clear y_V9
       refine wpAnyH_ready (rs := [10]) (by kernel_rfl) (by simp) ?_
       refine AllReadyH.cons (o := ?o86) ?ho86 (fun K hK => ?st86) AllReadyH.nil
       case ho86 => (simp only [gA, gB, gC]; rfl)
       go_simp
       refine (on.out 10 _ _ _ _).mono ?_; rintro e w8 ⟨rfl, h8⟩; have y_V9 := V9.out.below (h8); clear V9; have V9 := Lib.hid y_V9; clear y_V9; have y_F9 := F9.out.below (h8); clear F9; have F9 := Lib.hid y_F9; clear y_F9
       refine hK.out _ _ ?_ (fun hHeld => ?_)
       · (try dsimp only); exact HALL.out _ (hHeld.1.below h8)
       clear hK K
       (try simp only [Act.put, sA, sB, sC])
       refine wpAnyH_ready (rs := [11]) (by kernel_rfl) (by simp) ?_
       refine AllReadyH.cons (o := ?o87) ?ho87 (fun K hK => ?st87) AllReadyH.nil
       case ho87 => (simp only [gA, gB, gC]; rfl)
       go_simp
       refine (eval_at F9.out (fdk_none _) (vlk_none _) (ok_two (in64_lit (by decide) (by decide)) (ok_con (ok_truth false)) (ok_two (in64_lit (by decide) (by decide)) (ok_two (in64_lit (by decide) (by decide)) (ok_con (ok_int (in64_lit (by decide) (by decide)))) (ok_con (ok_int (in64_lit (by decide) (by decide))))) (ok_con (ok_int (in64_lit (by decide) (by decide)))))) (fun v hv => by cases hv) aw_3).mono ?_; rintro e w9 ⟨rfl, h9⟩; clear F9; have y_V9 := V9.out.below (h9); clear V9; have V9 := Lib.hid y_V9; clear y_V9
       refine hK.out _ _ ?_ (fun hHeld => ?_)
       · (try dsimp only); exact HALL.out _ (hHeld.1.below h9)
       clear hK K
       (try simp only [Act.put, sA, sB, sC])
       refine wpAnyH_take (i := 12) (oi := ?oi88) (v := ?v88) ?hi88 (by kernel_rfl) (by kernel_rfl) (by kernel_rfl) ?hQ88 (Or.inl ⟨?hw88, ?hy88⟩) (by assumption) ?rest88
       case hi88 => (simp only [gA, gB, gC]; rfl)
       case hQ88 => exact fun _ _ _ h => h
       case hw88 => rfl
       case hy88 => (intro w hSw; (try dsimp only at hSw); go_simp; try with_reducible rfl)
       (try simp only [Act.put, sA, sB, sC])
       refine wpAnyH_take (i := 13) (oi := ?oi89) (v := ?v89) ?hi89 (by kernel_rfl) (by kernel_rfl) (by kernel_rfl) ?hQ89 (Or.inl ⟨?hw89, ?hy89⟩) (by assumption) ?rest89
       case hi89 => (simp only [gA, gB, gC]; rfl)
       case hQ89 => exact fun _ _ _ h => h
       case hw89 => rfl
       case hy89 => (intro w hSw; (try dsimp only at hSw); go_simp; try with_reducible rfl)
       (try simp only [Act.put, sA, sB, sC])
       refine wpAnyH_take (i := 14) (oi := ?oi90) (v := ?v90) ?hi90 (by kernel_rfl) (by kernel_rfl) (by kernel_rfl) ?hQ90 (Or.inl ⟨?hw90, ?hy90⟩) (by assumption) ?rest90
       case hi90 => (simp only [gA, gB, gC]; rfl)
       case hQ90 => exact fun _ _ _ h => h
       case hw90 => rfl
       case hy90 => (intro w hSw; (try dsimp only at hSw); go_simp; try with_reducible rfl)
       (try simp only [Act.put, sA, sB, sC])
       obtain ⟨u0, u1, u2, u3, u4, e0, e1, e2, e3, e4, ef⟩ := V9.out.open
       refine wpAnyH_ready (rs := [16]) (by kernel_rfl) (by simp) ?_
       refine AllReadyH.cons (o := ?o91) ?ho91 (fun K hK => ?st91) AllReadyH.nil
       case ho91 => (simp only [gA, gB, gC]; rfl)
       go_simp
       refine hK.out _ _ ?_ (fun hHeld => ?_)
       · (try dsimp only); exact HALL.out _ (AwC.set5 hHeld.1 B9.out.1 HG.out.1 HG.out.2 B9.out.2 _ _ _ _ _)
       clear hK K
       (try simp only [Act.put, sA, sB, sC])
       refine wpAnyH_take (i := 17) (oi := ?oi92) (v := ?v92) ?hi92 (by kernel_rfl) (by kernel_rfl) (by kernel_rfl) ?hQ92 (Or.inl ⟨?hw92, ?hy92⟩) (by assumption) ?rest92
       case hi92 => (simp only [gA, gB, gC]; rfl)
       case hQ92 => exact fun _ _ _ h => h
       case hw92 => rfl
       case hy92 => (intro w hSw; (try dsimp only at hSw); go_simp; try with_reducible rfl)
       (try simp only [Act.put, sA, sB, sC])
       refine wpAnyH_done (by kernel_rfl) ?_ _
       go_wp2_with fail
       go_meet
       exact ⟨_, rfl, rfl, hHeld.1, bx_set (r := vTruth false) e0 e1 e2 e3 e4⟩
     ·
      go_simp
      refine hK.out _ _ ?_ (fun hHeld => ?_)
      · (try dsimp only); exact HALL.out _ (hHeld.1.below (alloc1 _ _))
      clear hK K
      (try simp only [Act.put, sA, sB, sC])
      have y_F4 := two_at (conX (vInt 1)) (conX (vInt 0)) 7 hHeld.1 (ExE.leaf _ (conX (vInt 1)) rfl) (ExE.leaf _ (conX (vInt 0)) rfl)
      (try simp only [World.size_alloc] at y_F4)
      have F4 := Lib.hid y_F4
      clear y_F4
      refine wpAnyH_ready (rs := [1, 15]) (by kernel_rfl) (by simp) ?_
      refine AllReadyH.cons (o := ?o93) ?ho93 (fun K hK => ?st93) (AllReadyH.cons (o := ?o94) ?ho94 (fun K hK => ?st94) AllReadyH.nil)
      case ho93 => (simp only [gA, gB, gC]; rfl)
      case ho94 => (simp only [gA, gB, gC]; rfl)
      ·
       go_simp
       refine (cn.out (vTruth false) _).mono ?_; rintro e w2 ⟨rfl, h2⟩; have y_F4 := F4.out.below (h2); clear F4; have F4 := Lib.hid y_F4; clear y_F4
       refine hK.out _ _ ?_ (fun hHeld => ?_)
       · (try dsimp only); exact HALL.out _ (hHeld.1.below h2)
       clear hK K
       (try simp only [Act.put, sA, sB, sC])
       refine wpAnyH_ready (rs := [5, 15]) (by kernel_rfl) (by simp) ?_
       refine AllReadyH.cons (o := ?o95) ?ho95 (fun K hK => ?st95) (AllReadyH.cons (o := ?o96) ?ho96 (fun K hK => ?st96) AllReadyH.nil)
       case ho95 => (simp only [gA, gB, gC]; rfl)
       case ho96 => (simp only [gA, gB, gC]; rfl)
       ·
        go_simp
        refine (on.out 7 _ _ _ _).mono ?_; rintro e w3 ⟨rfl, h3⟩; have y_F4 := F4.out.below (h3); clear F4; have F4 := Lib.hid y_F4; clear y_F4
        refine hK.out _ _ ?_ (fun hHeld => ?_)
        · (try dsimp only); exact HALL.out _ (hHeld.1.below h3)
        clear hK K
        (try simp only [Act.put, sA, sB, sC])
        refine wpAnyH_ready (rs := [7, 15]) (by kernel_rfl) (by simp) ?_
        refine AllReadyH.cons (o := ?o97) ?ho97 (fun K hK => ?st97) (AllReadyH.cons (o := ?o98) ?ho98 (fun K hK => ?st98) AllReadyH.nil)
        case ho97 => (simp only [gA, gB, gC]; rfl)
        case ho98 => (simp only [gA, gB, gC]; rfl)
        ·
         go_simp
         refine hK.out _ _ ?_ (fun hHeld => ?_)
         · (try dsimp only); exact HALL.out _ (hHeld.1.below (alloc1 _ _))
         clear hK K
         (try simp only [Act.put, sA, sB, sC])
         have y_F7 := two_at (opX 7 [conX (vInt 1), conX (vInt 0)]) (conX (vInt 1)) 8 hHeld.1 F4.out (ExE.leaf _ (conX (vInt 1)) rfl)
         (try simp only [World.size_alloc] at y_F7)
         clear F4
         have F7 := Lib.hid y_F7
         clear y_F7
         refine wpAnyH_ready (rs := [8, 15]) (by kernel_rfl) (by simp) ?_
         refine AllReadyH.cons (o := ?o99) ?ho99 (fun K hK => ?st99) (AllReadyH.cons (o := ?o100) ?ho100 (fun K hK => ?st100) AllReadyH.nil)
         case ho99 => (simp only [gA, gB, gC]; rfl)
         case ho100 => (simp only [gA, gB, gC]; rfl)
         ·
          go_simp
          refine (on.out 8 _ _ _ _).mono ?_; rintro e w5 ⟨rfl, h5⟩; have y_F7 := F7.out.below (h5); clear F7; have F7 := Lib.hid y_F7; clear y_F7
          refine hK.out _ _ ?_ (fun hHeld => ?_)
          · (try dsimp only); exact HALL.out _ (hHeld.1.below h5)
          clear hK K
          (try simp only [Act.put, sA, sB, sC])
          refine wpAnyH_ready (rs := [9, 15]) (by kernel_rfl) (by simp) ?_
          refine AllReadyH.cons (o := ?o101) ?ho101 (fun K hK => ?st101) (AllReadyH.cons (o := ?o102) ?ho102 (fun K hK => ?st102) AllReadyH.nil)
          case ho101 => (simp only [gA, gB, gC]; rfl)
          case ho102 => (simp only [gA, gB, gC]; rfl)
          ·
           go_simp
           refine hK.out _ _ ?_ (fun hHeld => ?_)
           · (try dsimp only); exact HALL.out _ (hHeld.1.below (alloc1 _ _))
           clear hK K
           (try simp only [Act.put, sA, sB, sC])
           have y_F9 := two_at (conX (vTruth false)) nought 10 hHeld.1 (ExE.leaf _ (conX (vTruth false)) rfl) F7.out
           (try simp only [World.size_alloc] at y_F9)
           clear F7
           have F9 := Lib.hid y_F9
           clear y_F9
           refine wpAnyH_ready (rs := [10, 15]) (by kernel_rfl) (by simp) ?_
           refine AllReadyH.cons (o := ?o103) ?ho103 (fun K hK => ?st103) (AllReadyH.cons (o := ?o104) ?ho104 (fun K hK => ?st104) AllReadyH.nil)
           case ho103 => (simp only [gA, gB, gC]; rfl)
           case ho104 => (simp only [gA, gB, gC]; rfl)
           ·
            go_simp
            refine (on.out 10 _ _ _ _).mono ?_; rintro e w7 ⟨rfl, h7⟩; have y_F9 := F9.out.below (h7); clear F9; have F9 := Lib.hid y_F9; clear y_F9
            refine hK.out _ _ ?_ (fun hHeld => ?_)
            · (try dsimp only); exact HALL.out _ (hHeld.1.below h7)
            clear hK K
            (try simp only [Act.put, sA, sB, sC])
            refine wpAnyH_ready (rs := [11, 15]) (by kernel_rfl) (by simp) ?_
            refine AllReadyH.cons (o := ?o105) ?ho105 (fun K hK => ?st105) (AllReadyH.cons (o := ?o106) ?ho106 (fun K hK => ?st106) AllReadyH.nil)
            case ho105 => (simp only [gA, gB, gC]; rfl)
            case ho106 => (simp only [gA, gB, gC]; rfl)
            ·
             go_simp
             refine (eval_at F9.out (fdk_none _) (vlk_none _) (ok_two (in64_lit (by decide) (by decide)) (ok_con (ok_truth false)) (ok_two (in64_lit (by decide) (by decide)) (ok_two (in64_lit (by decide) (by decide)) (ok_con (ok_int (in64_lit (by decide) (by decide)))) (ok_con (ok_int (in64_lit (by decide) (by decide))))) (ok_con (ok_int (in64_lit (by decide) (by decide)))))) (fun v hv => by cases hv) aw_3).mono ?_; rintro e w8 ⟨rfl, h8⟩; clear F9
             refine hK.out _ _ ?_ (fun hHeld => ?_)
             · (try dsimp only); exact HALL.out _ (hHeld.1.below h8)
             clear hK K
             (try simp only [Act.put, sA, sB, sC])
             refine wpAnyH_take (i := 12) (oi := ?oi107) (v := ?v107) ?hi107 (by kernel_rfl) (by kernel_rfl) (by kernel_rfl) ?hQ107 (Or.inl ⟨?hw107, ?hy107⟩) (by assumption) ?rest107
             case hi107 => (simp only [gA, gB, gC]; rfl)
             case hQ107 => exact fun _ _ _ h => h
             case hw107 => rfl
             case hy107 => (intro w hSw; (try dsimp only at hSw); go_simp; try with_reducible rfl)
             (try simp only [Act.put, sA, sB, sC])
             refine wpAnyH_take (i := 13) (oi := ?oi108) (v := ?v108) ?hi108 (by kernel_rfl) (by kernel_rfl) (by kernel_rfl) ?hQ108 (Or.inl ⟨?hw108, ?hy108⟩) (by assumption) ?rest108
             case hi108 => (simp only [gA, gB, gC]; rfl)
             case hQ108 => exact fun _ _ _ h => h
             case hw108 => rfl
             case hy108 => (intro w hSw; (try dsimp only at hSw); go_simp; try with_reducible rfl)
             (try simp only [Act.put, sA, sB, sC])
             refine wpAnyH_take (i := 14) (oi := ?oi109) (v := ?v109) ?hi109 (by kernel_rfl) (by kernel_rfl) (by kernel_rfl) ?hQ109 (Or.inl ⟨?hw109, ?hy109⟩) (by assumption) ?rest109
             case hi109 => (simp only [gA, gB, gC]; rfl)
             case hQ109 => exact fun _ _ _ h => h
             case hw109 => rfl
             case hy109 => (intro w hSw; (try dsimp only at hSw); go_simp; try with_reducible rfl)
             (try simp only [Act.put, sA, sB, sC])
             refine wpAnyH_ready (rs := [15]) (by kernel_rfl) (by simp) ?_
             refine AllReadyH.cons (o := ?o110) ?ho110 (fun K hK => ?st110) AllReadyH.nil
             case ho110 => (simp only [gA, gB, gC]; rfl)
             go_simp
             have hPre := hHeld; have y_B := And.intro hHeld.1.aw.glt (Nat.ne_of_lt hHeld.1.lt5); (try simp only [World.size_alloc] at y_B); have B9 := Lib.hid y_B; clear y_B
             refine hK.out _ _ ?_ (fun hHeld => ?_)
             · (try dsimp only); exact HALL.out _ (hHeld.1.below (alloc1 _ _))
             clear hK K
             (try simp only [Act.put, sA, sB, sC])
             refine wpAnyH_ready (rs := [16]) (by kernel_rfl) (by simp) ?_
             refine AllReadyH.cons (o := ?o111) ?ho111 (fun K hK => ?st111) AllReadyH.nil
             case ho111 => (simp only [gA, gB, gC]; rfl)
             go_simp
             refine hK.out _ _ ?_ (fun hHeld => ?_)
             · (try dsimp only); exact HALL.out _ (hPre.1.below (alloc1 _ _))
             clear hK K
             (try simp only [Act.put, sA, sB, sC])
             refine wpAnyH_take (i := 17) (oi := ?oi112) (v := ?v112) ?hi112 (by kernel_rfl) (by kernel_rfl) (by kernel_rfl) ?hQ112 (Or.inl ⟨?hw112, ?hy112⟩) (by assumption) ?rest112
             case hi112 => (simp only [gA, gB, gC]; rfl)
             case hQ112 => exact fun _ _ _ h => h
             case hw112 => rfl
             case hy112 => (intro w hSw; (try dsimp only at hSw); go_simp; try with_reducible rfl)
             (try simp only [Act.put, sA, sB, sC])
             refine wpAnyH_done (by kernel_rfl) ?_ _
             go_wp2_with fail
             go_meet
             exact ⟨_, rfl, rfl, hHeld.1, Bx.new _ (vTruth false)⟩
            ·
             go_simp
             have hPre := hHeld; have y_B := And.intro hHeld.1.aw.glt (Nat.ne_of_lt hHeld.1.lt5); (try simp only [World.size_alloc] at y_B); have B9 := Lib.hid y_B; clear y_B
             refine hK.out _ _ ?_ (fun hHeld => ?_)
             · (try dsimp only); exact HALL.out _ (hHeld.1.below (alloc1 _ _))
             clear hK K
             (try simp only [Act.put, sA, sB, sC])
             have y_V9 := vb_at hHeld.1
             (try simp only [World.size_alloc] at y_V9)
             have V9 := Lib.hid y_V9
             clear y_V9
             have y_F9 := F9.out.below (bel_at hHeld.1)
             clear F9
             have F9 := Lib.hid y_F9
             clear y_F9
             refine wpAnyH_ready (rs := [11]) (by kernel_rfl) (by simp) ?_
             refine AllReadyH.cons (o := ?o113) ?ho113 (fun K hK => ?st113) AllReadyH.nil
             case ho113 => (simp only [gA, gB, gC]; rfl)
             go_simp
             refine (eval_at F9.out (fdk_none _) (vlk_none _) (ok_two (in64_lit (by decide) (by decide)) (ok_con (ok_truth false)) (ok_two (in64_lit (by decide) (by decide)) (ok_two (in64_lit (by decide) (by decide)) (ok_con (ok_int (in64_lit (by decide) (by decide)))) (ok_con (ok_int (in64_lit (by decide) (by decide))))) (ok_con (ok_int (in64_lit (by decide) (by decide)))))) (fun v hv => by cases hv) aw_3).mono ?_; rintro e w9 ⟨rfl, h9⟩; clear F9; have y_V9 := V9.out.below (h9); clear V9; have V9 := Lib.hid y_V9; clear y_V9
             refine hK.out _ _ ?_ (fun hHeld => ?_)
             · (try dsimp only); exact HALL.out _ (hHeld.1.below h9)
             clear hK K
             (try simp only [Act.put, sA, sB, sC])
             refine wpAnyH_take (i := 12) (oi := ?oi114) (v := ?v114) ?hi114 (by kernel_rfl) (by kernel_rfl) (by kernel_rfl) ?hQ114 (Or.inl ⟨?hw114, ?hy114⟩) (by assumption) ?rest114
             case hi114 => (simp only [gA, gB, gC]; rfl)
             case hQ114 => exact fun _ _ _ h => h
             case hw114 => rfl
             case hy114 => (intro w hSw; (try dsimp only at hSw); go_simp; try with_reducible rfl)
             (try simp only [Act.put, sA, sB, sC])
             refine wpAnyH_take (i := 13) (oi := ?oi115) (v := ?v115) ?hi115 (by kernel_rfl) (by kernel_rfl) (by kernel_rfl) ?hQ115 (Or.inl ⟨?hw115, ?hy115⟩) (by assumption) ?rest115
             case hi115 => (simp only [gA, gB, gC]; rfl)
             case hQ115 => exact fun _ _ _ h => h
             case hw115 => rfl
             case hy115 => (intro w hSw; (try dsimp only at hSw); go_simp; try with_reducible rfl)
             (try simp only [Act.put, sA, sB, sC])
             refine wpAnyH_take (i := 14) (oi := ?oi116) (v := ?v116) ?hi116 (by kernel_rfl) (by kernel_rfl) (by kernel_rfl) ?hQ116 (Or.inl ⟨?hw116, ?hy116⟩) (by assumption) ?rest116
             case hi116 => (simp only [gA, gB, gC]; rfl)
             case hQ116 => exact fun _ _ _ h => h
             case hw116 => rfl
             case hy116 => (intro w hSw; (try dsimp only at hSw); go_simp; try with_reducible rfl)
             (try simp only [Act.put, sA, sB, sC])
             obtain ⟨u0, u1, u2, u3, u4, e0, e1, e2, e3, e4, ef⟩ := V9.out.open
             refine wpAnyH_ready (rs := [16]) (by kernel_rfl) (by simp) ?_
             refine AllReadyH.cons (o := ?o117) ?ho117 (fun K hK => ?st117) AllReadyH.nil
             case ho117 => (simp only [gA, gB, gC]; rfl)
             go_simp
             refine hK.out _ _ ?_ (fun hHeld => ?_)
             · (try dsimp only); exact HALL.out _ (AwC.set5 hHeld.1 B9.out.1 HG.out.1 HG.out.2 B9.out.2 _ _ _ _ _)
             clear hK K
             (try simp only [Act.put, sA, sB, sC])
             refine wpAnyH_take (i := 17) (oi := ?oi118) (v := ?v118) ?hi118 (by kernel_rfl) (by kernel_rfl) (by kernel_rfl) ?hQ118 (Or.inl ⟨?hw118, ?hy118⟩) (by assumption) ?rest118
             case hi118 => (simp only [gA, gB, gC]; rfl)
             case hQ118 => exact fun _ _ _ h => h
             case hw118 => rfl
             case hy118 => (intro w hSw; (try dsimp only at hSw); go_simp; try with_reducible rfl)
             (try simp only [Act.put, sA, sB, sC])
             refine wpAnyH_done (by kernel_rfl) ?_ _
             go_wp2_with fail
             go_meet
             exact ⟨_, rfl, rfl, hHeld.1, bx_set (r := vTruth false) e0 e1 e2 e3 e4⟩
           ·
            go_simp
            have hPre := hHeld; have y_B := And.intro hHeld.1.aw.glt (Nat.ne_of_lt hHeld.1.lt5); (try simp only [World.size_alloc] at y_B); have B9 := Lib.hid y_B; clear y_B
            refine hK.out _ _ ?_ (fun hHeld => ?_)
            · (try dsimp only); exact HALL.out _ (hHeld.1.below (alloc1 _ _))
            clear hK K
            (try simp only [Act.put, sA, sB, sC])
            have y_V9 := vb_at hHeld.1
            (try simp only [World.size_alloc] at y_V9)
            have V9 := Lib.hid y_V9
            clear y_V9
            have y_F9 := F9.out.below (bel_at hHeld.1)
            clear F9
            have F9 := Lib.hid y_F9
            clear y_F9
            refine wpAnyH_ready (rs := [10]) (by kernel_rfl) (by simp) ?_
            refine AllReadyH.cons (o := ?o119) ?ho119 (fun K hK => ?st119) AllReadyH.nil
            case ho119 => (simp only [gA, gB, gC]; rfl)
            go_simp
            refine (on.out 10 _ _ _ _).mono ?_; rintro e w8 ⟨rfl, h8⟩; have y_F9 := F9.out.below (h8); clear F9; have F9 := Lib.hid y_F9; clear y_F9; have y_V9 := V9.out.below (h8); clear V9; have V9 := Lib.hid y_V9; clear y_V9
            refine hK.out _ _ ?_ (fun hHeld => ?_)
            · (try dsimp only); exact HALL.out _ (hHeld.1.below h8)
            clear hK K
            (try simp only [Act.put, sA, sB, sC])
            refine wpAnyH_ready (rs := [11]) (by kernel_rfl) (by simp) ?_
            refine AllReadyH.cons (o := ?o120) ?ho120 (fun K hK => ?st120) AllReadyH.nil
            case ho120 => (simp only [gA, gB, gC]; rfl)
            go_simp
            refine (eval_at F9.out (fdk_none _) (vlk_none _) (ok_two (in64_lit (by decide) (by decide)) (ok_con (ok_truth false)) (ok_two (in64_lit (by decide) (by decide)) (ok_two (in64_lit (by decide) (by decide)) (ok_con (ok_int (in64_lit (by decide) (by decide)))) (ok_con (ok_int (in64_lit (by decide) (by decide))))) (ok_con (ok_int (in64_lit (by decide) (by decide)))))) (fun v hv => by cases hv) aw_3).mono ?_; rintro e w9 ⟨rfl, h9⟩; clear F9; have y_V9 := V9.out.below (h9); clear V9; have V9 := Lib.hid y_V9; clear y_V9
            refine hK.out _ _ ?_ (fun hHeld => ?_)
            · (try dsimp only); exact HALL.out _ (hHeld.1.below h9)
            clear hK K
            (try simp only [Act.put, sA, sB, sC])
            refine wpAnyH_take (i := 12) (oi := ?oi121) (v := ?v121) ?hi121 (by kernel_rfl) (by kernel_rfl) (by kernel_rfl) ?hQ121 (Or.inl ⟨?hw121, ?hy121⟩) (by assumption) ?rest121
            case hi121 => (simp only [gA, gB, gC]; rfl)
            case hQ121 => exact fun _ _ _ h => h
            case hw121 => rfl
            case hy121 => (intro w hSw; (try dsimp only at hSw); go_simp; try with_reducible rfl)
            (try simp only [Act.put, sA, sB, sC])
            refine wpAnyH_take (i := 13) (oi := ?oi122) (v := ?v122) ?hi122 (by kernel_rfl) (by kernel_rfl) (by kernel_rfl) ?hQ122 (Or.inl ⟨?hw122, ?hy122⟩) (by assumption) ?rest122
            case hi122 => (simp only [gA, gB, gC]; rfl)
            case hQ122 => exact fun _ _ _ h => h
            case hw122 => rfl
            case hy122 => (intro w hSw; (try dsimp only at hSw); go_simp; try with_reducible rfl)
            (try simp only [Act.put, sA, sB, sC])
            refine wpAnyH_take (i := 14) (oi := ?oi123) (v := ?v123) ?hi123 (by kernel_rfl) (by kernel_rfl) (by kernel_rfl) ?hQ123 (Or.inl ⟨?hw123, ?hy123⟩) (by assumption) ?rest123
            case hi123 => (simp only [gA, gB, gC]; rfl)
            case hQ123 => exact fun _ _ _ h => h
            case hw123 => rfl
            case hy123 => (intro w hSw; (try dsimp only at hSw); go_simp; try with_reducible rfl)
            (try simp only [Act.put, sA, sB, sC])
            obtain ⟨u0, u1, u2, u3, u4, e0, e1, e2, e3, e4, ef⟩ := V9.out.open
            refine wpAnyH_ready (rs := [16]) (by kernel_rfl) (by simp) ?_
            refine AllReadyH.cons (o := ?o124) ?ho124 (fun K hK => ?st124) AllReadyH.nil
            case ho124 => (simp only [gA, gB, gC]; rfl)
            go_simp
            refine hK.out _ _ ?_ (fun hHeld => ?_)
            · (try dsimp only); exact HALL.out _ (AwC.set5 hHeld.1 B9.out.1 HG.out.1 HG.out.2 B9.out.2 _ _ _ _ _)
            clear hK K
            (try simp only [Act.put, sA, sB, sC])
            refine wpAnyH_take (i := 17) (oi := ?oi125) (v := ?v125) ?hi125 (by kernel_rfl) (by kernel_rfl) (by kernel_rfl) ?hQ125 (Or.inl ⟨?hw125, ?hy125⟩) (by assumption) ?rest125
            case hi125 => (simp only [gA, gB, gC]; rfl)
            case hQ125 => exact fun _ _ _ h => h
            case hw125 => rfl
            case hy125 => (intro w hSw; (try dsimp only at hSw); go_simp; try with_reducible rfl)
            (try simp only [Act.put, sA, sB, sC])
            refine wpAnyH_done (by kernel_rfl) ?_ _
            go_wp2_with fail
            go_meet
            exact ⟨_, rfl, rfl, hHeld.1, bx_set (r := vTruth false) e0 e1 e2 e3 e4⟩
          ·
           go_simp
           have hPre := hHeld; have y_B := And.intro hHeld.1.aw.glt (Nat.ne_of_lt hHeld.1.lt5); (try simp only [World.size_alloc] at y_B); have B9 := Lib.hid y_B; clear y_B
           refine hK.out _ _ ?_ (fun hHeld => ?_)
           · (try dsimp only); exact HALL.out _ (hHeld.1.below (alloc1 _ _))
           clear hK K
           (try simp only [Act.put, sA, sB, sC])
           have y_V9 := vb_at hHeld.1
           (try simp only [World.size_alloc] at y_V9)
           have V9 := Lib.hid y_V9
           clear y_V9
           have y_F7 := F7.out.below (bel_at hHeld.1)
           clear F7
           have F7 := Lib.hid y_F7
           clear y_F7
           refine wpAnyH_ready (rs := [9]) (by kernel_rfl) (by simp) ?_
           refine AllReadyH.cons (o := ?o126) ?ho126 (fun K hK => ?st126) AllReadyH.nil
           case ho126 => (simp only [gA, gB, gC]; rfl)
           go_simp
           refine hK.out _ _ ?_ (fun hHeld => ?_)
           · (try dsimp only); exact HALL.out _ (hHeld.1.below (alloc1 _ _))
           clear hK K
           (try simp only [Act.put, sA, sB, sC])
           have y_F9 := two_at (conX (vTruth false)) nought 10 hHeld.1 (ExE.leaf _ (conX (vTruth false)) rfl) F7.out
           (try simp only [World.size_alloc] at y_F9)
           clear F7
           have F9 := Lib.hid y_F9
           clear y_F9
           have y_V9 := V9.out.below (bel_at hHeld.1)
           clear V9
           have V9 := Lib.hid y_V9
           clear y_V9
           refine wpAnyH_ready (rs := [10]) (by kernel_rfl) (by simp) ?_
           refine AllReadyH.cons (o := ?o127) ?ho127 (fun K hK => ?st127) AllReadyH.nil
           case ho127 => (simp only [gA, gB, gC]; rfl)
           go_simp
           refine (on.out 10 _ _ _ _).mono ?_; rintro e w8 ⟨rfl, h8⟩; have y_V9 := V9.out.below (h8); clear V9; have V9 := Lib.hid y_V9; clear y_V9; have y_F9 := F9.out.below (h8); clear F9; have F9 := Lib.hid y_F9; clear y_F9
           refine hK.out _ _ ?_ (fun hHeld => ?_)
           · (try dsimp only); exact HALL.out _ (hHeld.1.below h8)
           clear hK K
           (try simp only [Act.put, sA, sB, sC])
           refine wpAnyH_ready (rs := [11]) (by kernel_rfl) (by simp) ?_
           refine AllReadyH.cons (o := ?o128) ?ho128 (fun K hK => ?st128) AllReadyH.nil
           case ho128 => (simp only [gA, gB, gC]; rfl)
           go_simp
           refine (eval_at F9.out (fdk_none _) (vlk_none _) (ok_two (in64_lit (by decide) (by decide)) (ok_con (ok_truth false)) (ok_two (in64_lit (by decide) (by decide)) (ok_two (in64_lit (by decide) (by decide)) (ok_con (ok_int (in64_lit (by decide) (by decide)))) (ok_con (ok_int (in64_lit (by decide) (by decide))))) (ok_con (ok_int (in64_lit (by decide) (by decide)))))) (fun v hv => by cases hv) aw_3).mono ?_; rintro e w9 ⟨rfl, h9⟩; clear F9; have y_V9 := V9.out.below (h9); clear V9; have V9 := Lib.hid y_V9; clear y_V9
           refine hK.out _ _ ?_ (fun hHeld => ?_)
           · (try dsimp only); exact HALL.out _ (hHeld.1.below h9)
           clear hK K
           (try simp only [Act.put, sA, sB, sC])
           refine wpAnyH_take (i := 12) (oi := ?oi129) (v := ?v129) ?hi129 (by kernel_rfl) (by kernel_rfl) (by kernel_rfl) ?hQ129 (Or.inl ⟨?hw129, ?hy129⟩) (by assumption) ?rest129
           case hi129 => (simp only [gA, gB, gC]; rfl)
           case hQ129 => exact fun _ _ _ h => h
           case hw129 => rfl
           case hy129 => (intro w hSw; (try dsimp only at hSw); go_simp; try with_reducible rfl)
           (try simp only [Act.put, sA, sB, sC])
           refine wpAnyH_take (i := 13) (oi := ?oi130) (v := ?v130) ?hi130 (by kernel_rfl) (by kernel_rfl) (by kernel_rfl) ?hQ130 (Or.inl ⟨?hw130, ?hy130⟩) (by assumption) ?rest130
           case hi130 => (simp only [gA, gB, gC]; rfl)
           case hQ130 => exact fun _ _ _ h => h
           case hw130 => rfl
           case hy130 => (intro w hSw; (try dsimp only at hSw); go_simp; try with_reducible rfl)
           (try simp only [Act.put, sA, sB, sC])
           refine wpAnyH_take (i := 14) (oi := ?oi131) (v := ?v131) ?hi131 (by kernel_rfl) (by kernel_rfl) (by kernel_rfl) ?hQ131 (Or.inl ⟨?hw131, ?hy131⟩) (by assumption) ?rest131
           case hi131 => (simp only [gA, gB, gC]; rfl)
           case hQ131 => exact fun _ _ _ h => h
           case hw131 => rfl
           case hy131 => (intro w hSw; (try dsimp only at hSw); go_simp; try with_reducible rfl)
           (try simp only [Act.put, sA, sB, sC])
           obtain ⟨u0, u1, u2, u3, u4, e0, e1, e2, e3, e4, ef⟩ := V9.out.open
           refine wpAnyH_ready (rs := [16]) (by kernel_rfl) (by simp) ?_
           refine AllReadyH.cons (o := ?o132) ?ho132 (fun K hK => ?st132) AllReadyH.nil
           case ho132 => (simp only [gA, gB, gC]; rfl)
           go_simp
           refine hK.out _ _ ?_ (fun hHeld => ?_)
           · (try dsimp only); exact HALL.out _ (AwC.set5 hHeld.1 B9.out.1 HG.out.1 HG.out.2 B9.out.2 _ _ _ _ _)
           clear hK K
           (try simp only [Act.put, sA, sB, sC])
           refine wpAnyH_take (i := 17) (oi := ?oi133) (v := ?v133) ?hi133 (by kernel_rfl) (by kernel_rfl) (by kernel_rfl) ?hQ133 (Or.inl ⟨?hw133, ?hy133⟩) (by assumption) ?rest133
           case hi133 => (simp only [gA, gB, gC]; rfl)
           case hQ133 => exact fun _ _ _ h => h
           case hw133 => rfl
           case hy133 => (intro w hSw; (try dsimp only at hSw); go_simp; try with_reducible rfl)
           (try simp only [Act.put, sA, sB, sC])
           refine wpAnyH_done (by kernel_rfl) ?_ _
           go_wp2_with fail
           go_meet
           exact ⟨_, rfl, rfl, hHeld.1, bx_set (r := vTruth false) e0 e1 e2 e3 e4⟩
         ·
          go_simp
          have hPre := hHeld; have y_B := And.intro hHeld.1.aw.glt (Nat.ne_of_lt hHeld.1.lt5); (try simp only [World.size_alloc] at y_B); have B9 := Lib.hid y_B; clear y_B
          refine hK.out _ _ ?_ (fun hHeld => ?_)
          · (try dsimp only); exact HALL.out _ (hHeld.1.below (alloc1 _ _))
          clear hK K
          (try simp only [Act.put, sA, sB, sC])
          have y_V9 := vb_at hHeld.1
          (try simp only [World.size_alloc] at y_V9)
          have V9 := Lib.hid y_V9
          clear y_V9
          have y_F7 := F7.out.below (bel_at hHeld.1)
          clear F7
          have F7 := Lib.hid y_F7
          clear y_F7
          refine wpAnyH_ready (rs := [8]) (by kernel_rfl) (by simp) ?_
          refine AllReadyH.cons (o := ?o134) ?ho134 (fun K hK => ?st134) AllReadyH.nil
          case ho134 => (simp only [gA, gB, gC]; rfl)
          go_simp
          refine (on.out 8 _ _ _ _).mono ?_; rintro e w6 ⟨rfl, h6⟩; have y_F7 := F7.out.below (h6); clear F7; have F7 := Lib.hid y_F7; clear y_F7; have y_V9 := V9.out.below (h6); clear V9; have V9 := Lib.hid y_V9; clear y_V9
          refine hK.out _ _ ?_ (fun hHeld => ?_)
          · (try dsimp only); exact HALL.out _ (hHeld.1.below h6)
          clear hK K
          (try simp only [Act.put, sA, sB, sC])
          refine wpAnyH_ready (rs := [9]) (by kernel_rfl) (by simp) ?_
          refine AllReadyH.cons (o := ?o135) ?ho135 (fun K hK => ?st135) AllReadyH.nil
          case ho135 => (simp only [gA, gB, gC]; rfl)
          go_simp
          refine hK.out _ _ ?_ (fun hHeld => ?_)
          · (try dsimp only); exact HALL.out _ (hHeld.1.below (alloc1 _ _))
          clear hK K
          (try simp only [Act.put, sA, sB, sC])
          have y_F9 := two_at (conX (vTruth false)) nought 10 hHeld.1 (ExE.leaf _ (conX (vTruth false)) rfl) F7.out
          (try simp only [World.size_alloc] at y_F9)
          clear F7
          have F9 := Lib.hid y_F9
          clear y_F9
          have y_V9 := V9.out.below (bel_at hHeld.1)
          clear V9
          have V9 := Lib.hid y_V9
          clear y_V9
          refine wpAnyH_ready (rs := [10]) (by kernel_rfl) (by simp) ?_
          refine AllReadyH.cons (o := ?o136) ?ho136 (fun K hK => ?st136) AllReadyH.nil
          case ho136 => (simp only [gA, gB, gC]; rfl)
          go_simp
          refine (on.out 10 _ _ _ _).mono ?_; rintro e w8 ⟨rfl, h8⟩; have y_V9 := V9.out.below (h8); clear V9; have V9 := Lib.hid y_V9; clear y_V9; have y_F9 := F9.out.below (h8); clear F9; have F9 := Lib.hid y_F9; clear y_F9
          refine hK.out _ _ ?_ (fun hHeld => ?_)
          · (try dsimp only); exact HALL.out _ (hHeld.1.below h8)
          clear hK K
          (try simp only [Act.put, sA, sB, sC])
          refine wpAnyH_ready (rs := [11]) (by kernel_rfl) (by simp) ?_
          refine AllReadyH.cons (o := ?o137) ?ho137 (fun K hK => ?st137) AllReadyH.nil
          case ho137 => (simp only [gA, gB, gC]; rfl)
          go_simp
          refine (eval_at F9.out (fdk_none _) (vlk_none _) (ok_two (in64_lit (by decide) (by decide)) (ok_con (ok_truth false)) (ok_two (in64_lit (by decide) (by decide)) (ok_two (in64_lit (by decide) (by decide)) (ok_con (ok_int (in64_lit (by decide) (by decide)))) (ok_con (ok_int (in64_lit (by decide) (by decide))))) (ok_con (ok_int (in64_lit (by decide) (by decide)))))) (fun v hv => by cases hv) aw_3).mono ?_; rintro e w9 ⟨rfl, h9⟩; clear F9; have y_V9 := V9.out.below (h9); clear V9; have V9 := Lib.hid y_V9; clear y_V9
          refine hK.out _ _ ?_ (fun hHeld => ?_)
          · (try dsimp only); exact HALL.out _ (hHeld.1.below h9)
          clear hK K
          (try simp only [Act.put, sA, sB, sC])
          refine wpAnyH_take (i := 12) (oi := ?oi138) (v := ?v138) ?hi138 (by kernel_rfl) (by kernel_rfl) (by kernel_rfl) ?hQ138 (Or.inl ⟨?hw138, ?hy138⟩) (by assumption) ?rest138
          case hi138 => (simp only [gA, gB, gC]; rfl)
          case hQ138 => exact fun _ _ _ h => h
          case hw138 => rfl
          case hy138 => (intro w hSw; (try dsimp only at hSw); go_simp; try with_reducible rfl)
          (try simp only [Act.put, sA, sB, sC])
          refine wpAnyH_take (i := 13) (oi := ?oi139) (v := ?v139) ?hi139 (by kernel_rfl) (by kernel_rfl) (by kernel_rfl) ?hQ139 (Or.inl ⟨?hw139, ?hy139⟩) (by assumption) ?rest139
          case hi139 => (simp only [gA, gB, gC]; rfl)
          case hQ139 => exact fun _ _ _ h => h
          case hw139 => rfl
          case hy139 => (intro w hSw; (try dsimp only at hSw); go_simp; try with_reducible rfl)
          (try simp only [Act.put, sA, sB, sC])
          refine wpAnyH_take (i := 14) (oi := ?oi140) (v := ?v140) ?hi140 (by kernel_rfl) (by kernel_rfl) (by kernel_rfl) ?hQ140 (Or.inl ⟨?hw140, ?hy140⟩) (by assumption) ?rest140
          case hi140 => (simp only [gA, gB, gC]; rfl)
          case hQ140 => exact fun _ _ _ h => h
          case hw140 => rfl
          case hy140 => (intro w hSw; (try dsimp only at hSw); go_simp; try with_reducible rfl)
          (try simp only [Act.put, sA, sB, sC])
          obtain ⟨u0, u1, u2, u3, u4, e0, e1, e2, e3, e4, ef⟩ := V9.out.open
          refine wpAnyH_ready (rs := [16]) (by kernel_rfl) (by simp) ?_
          refine AllReadyH.cons (o := ?o141) ?ho141 (fun K hK => ?st141) AllReadyH.nil
          case ho141 => (simp only [gA, gB, gC]; rfl)
          go_simp
          refine hK.out _ _ ?_ (fun hHeld => ?_)
          · (try dsimp only); exact HALL.out _ (AwC.set5 hHeld.1 B9.out.1 HG.out.1 HG.out.2 B9.out.2 _ _ _ _ _)
          clear hK K
          (try simp only [Act.put, sA, sB, sC])
          refine wpAnyH_take (i := 17) (oi := ?oi142) (v := ?v142) ?hi142 (by kernel_rfl) (by kernel_rfl) (by kernel_rfl) ?hQ142 (Or.inl ⟨?hw142, ?hy142⟩) (by assumption) ?rest142
          case hi142 => (simp only [gA, gB, gC]; rfl)
          case hQ142 => exact fun _ _ _ h => h
          case hw142 => rfl
          case hy142 => (intro w hSw; (try dsimp only at hSw); go_simp; try with_reducible rfl)
          (try simp only [Act.put, sA, sB, sC])
          refine wpAnyH_done (by kernel_rfl) ?_ _
          go_wp2_with fail
          go_meet
          exact ⟨_, rfl, rfl, hHeld.1, bx_set (r := vTruth false) e0 e1 e2 e3 e4⟩
        ·
         go_simp
         have hPre := hHeld; have y_B := And.intro hHeld.1.aw.glt (Nat.ne_of_lt hHeld.1.lt5); (try simp only [World.size_alloc] at y_B); have B9 := Lib.hid y_B; clear y_B
         refine hK.out _ _ ?_ (fun hHeld => ?_)
         · (try dsimp only); exact HALL.out _ (hHeld.1.below (alloc1 _ _))
         clear hK K
         (try simp only [Act.put, sA, sB, sC])
         have y_V9 := vb_at hHeld.1
         (try simp only [World.size_alloc] at y_V9)
         have V9 := Lib.hid y_V9
         clear y_V9
         have y_F4 := F4.out.below (bel_at hHeld.1)
         clear F4
         have F4 := Lib.hid y_F4
         clear y_F4
         refine wpAnyH_ready (rs := [7]) (by kernel_rfl) (by simp) ?_
         refine AllReadyH.cons (o := ?o143) ?ho143 (fun K hK => ?st143) AllReadyH.nil
         case ho143 => (simp only [gA, gB, gC]; rfl)
         go_simp
         refine hK.out _ _ ?_ (fun hHeld => ?_)
         · (try dsimp only); exact HALL.out _ (hHeld.1.below (alloc1 _ _))
         clear hK K
         (try simp only [Act.put, sA, sB, sC])
         have y_F7 := two_at (opX 7 [conX (vInt 1), conX (vInt 0)]) (conX (vInt 1)) 8 hHeld.1 F4.out (ExE.leaf _ (conX (vInt 1)) rfl)
         (try simp only [World.size_alloc] at y_F7)
         clear F4
         have F7 := Lib.hid y_F7
         clear y_F7
         have y_V9 := V9.out.below (bel_at hHeld.1)
         clear V9
         have V9 := Lib.hid y_V9
         clear y_V9
         refine wpAnyH_ready (rs := [8]) (by kernel_rfl) (by simp) ?_
         refine AllReadyH.cons (o := ?o144) ?ho144 (fun K hK => ?st144) AllReadyH.nil
         case ho144 => (simp only [gA, gB, gC]; rfl)
         go_simp
         refine (on.out 8 _ _ _ _).mono ?_; rintro e w6 ⟨rfl, h6⟩; have y_V9 := V9.out.below (h6); clear V9; have V9 := Lib.hid y_V9; clear y_V9; have y_F7 := F7.out.below (h6); clear F7; have F7 := Lib.hid y_F7; clear y_F7
         refine hK.out _ _ ?_ (fun hHeld => ?_)
         · (try dsimp only); exact HALL.out _ (hHeld.1.below h6)
         clear hK K
         (try simp only [Act.put, sA, sB, sC])
         refine wpAnyH_ready (rs := [9]) (by kernel_rfl) (by simp) ?_
         refine AllReadyH.cons (o := ?o145) ?ho145 (fun K hK => ?st145) AllReadyH.nil
         case ho145 => (simp only [gA, gB, gC]; rfl)
         go_simp
         refine hK.out _ _ ?_ (fun hHeld => ?_)
         · (try dsimp only); exact HALL.out _ (hHeld.1.below (alloc1 _ _))
         clear hK K
         (try simp only [Act.put, sA, sB, sC])
         have y_F9 := two_at (conX (vTruth false)) nought 10 hHeld.1 (ExE.leaf _ (conX (vTruth false)) rfl) F7.out
         (try simp only [World.size_alloc] at y_F9)
         clear F7
         have F9 := Lib.hid y_F9
         clear y_F9
         have y_V9 := V9.out.below (bel_at hHeld.1)
         clear V9
         have V9 := Lib.hid y_V9
         clear y_V9
         refine wpAnyH_ready (rs := [10]) (by kernel_rfl) (by simp) ?_
         refine AllReadyH.cons (o := ?o146) ?ho146 (fun K hK => ?st146) AllReadyH.nil
         case ho146 => (simp only [gA, gB, gC]; rfl)
         go_simp
         refine (on.out 10 _ _ _ _).mono ?_; rintro e w8 ⟨rfl, h8⟩; have y_V9 := V9.out.below (h8); clear V9; have V9 := Lib.hid y_V9; clear y_V9; have y_F9 := F9.out.below (h8); clear F9; have F9 := Lib.hid y_F9; clear y_F9
         refine hK.out _ _ ?_ (fun hHeld => ?_)
         · (try dsimp only); exact HALL.out _ (hHeld.1.below h8)
         clear hK K
         (try simp only [Act.put, sA, sB, sC])
         refine wpAnyH_ready (rs := [11]) (by kernel_rfl) (by simp) ?_
         refine AllReadyH.cons (o := ?o147) ?ho147 (fun K hK => ?st147) AllReadyH.nil
         case ho147 => (simp only [gA, gB, gC]; rfl)
         go_simp
         refine (eval_at F9.out (fdk_none _) (vlk_none _) (ok_two (in64_lit (by decide) (by decide)) (ok_con (ok_truth false)) (ok_two (in64_lit (by decide) (by decide)) (ok_two (in64_lit (by decide) (by decide)) (ok_con (ok_int (in64_lit (by decide) (by decide)))) (ok_con (ok_int (in64_lit (by decide) (by decide))))) (ok_con (ok_int (in64_lit (by decide) (by decide)))))) (fun v hv => by cases hv) aw_3).mono ?_; rintro e w9 ⟨rfl, h9⟩; clear F9; have y_V9 := V9.out.below (h9); clear V9; have V9 := Lib.hid y_V9; clear y_V9
         refine hK.out _ _ ?_ (fun hHeld => ?_)
         · (try dsimp only); exact HALL.out _ (hHeld.1.below h9)
         clear hK K
         (try simp only [Act.put, sA, sB, sC])
         refine wpAnyH_take (i := 12) (oi := ?oi148) (v := ?v148) ?hi148 (by kernel_rfl) (by kernel_rfl) (by kernel_rfl) ?hQ148 (Or.inl ⟨?hw148, ?hy148⟩) (by assumption) ?rest148
         case hi148 => (simp only [gA, gB, gC]; rfl)
         case hQ148 => exact fun _ _ _ h => h
         case hw148 => rfl
         case hy148 => (intro w hSw; (try dsimp only at hSw); go_simp; try with_reducible rfl)
         (try simp only [Act.put, sA, sB, sC])
         refine wpAnyH_take (i := 13) (oi := ?oi149) (v := ?v149) ?hi149 (by kernel_rfl) (by kernel_rfl) (by kernel_rfl) ?hQ149 (Or.inl ⟨?hw149, ?hy149⟩) (by assumption) ?rest149
         case hi149 => (simp only [gA, gB, gC]; rfl)
         case hQ149 => exact fun _ _ _ h => h
         case hw149 => rfl
         case hy149 => (intro w hSw; (try dsimp only at hSw); go_simp; try with_reducible rfl)
         (try simp only [Act.put, sA, sB, sC])
         refine wpAnyH_take (i := 14) (oi := ?oi150) (v := ?v150) ?hi150 (by kernel_rfl) (by kernel_rfl) (by kernel_rfl) ?hQ150 (Or.inl ⟨?hw150, ?hy150⟩) (by assumption) ?rest150
         case hi150 => (simp only [gA, gB, gC]; rfl)
         case hQ150 => exact fun _ _ _ h => h
         case hw150 => rfl
         case hy150 => (intro w hSw; (try dsimp only at hSw); go_simp; try with_reducible rfl)
         (try simp only [Act.put, sA, sB, sC])
         obtain ⟨u0, u1, u2, u3, u4, e0, e1, e2, e3, e4, ef⟩ := V9.out.open
         refine wpAnyH_ready (rs := [16]) (by kernel_rfl) (by simp) ?_
         refine AllReadyH.cons (o := ?o151) ?ho151 (fun K hK => ?st151) AllReadyH.nil
         case ho151 => (simp only [gA, gB, gC]; rfl)
         go_simp
         refine hK.out _ _ ?_ (fun hHeld => ?_)
         · (try dsimp only); exact HALL.out _ (AwC.set5 hHeld.1 B9.out.1 HG.out.1 HG.out.2 B9.out.2 _ _ _ _ _)
         clear hK K
         (try simp only [Act.put, sA, sB, sC])
         refine wpAnyH_take (i := 17) (oi := ?oi152) (v := ?v152) ?hi152 (by kernel_rfl) (by kernel_rfl) (by kernel_rfl) ?hQ152 (Or.inl ⟨?hw152, ?hy152⟩) (by assumption) ?rest152
         case hi152 => (simp only [gA, gB, gC]; rfl)
         case hQ152 => exact fun _ _ _ h => h
         case hw152 => rfl
         case hy152 => (intro w hSw; (try dsimp only at hSw); go_simp; try with_reducible rfl)
         (try simp only [Act.put, sA, sB, sC])
         refine wpAnyH_done (by kernel_rfl) ?_ _
         go_wp2_with fail
         go_meet
         exact ⟨_, rfl, rfl, hHeld.1, bx_set (r := vTruth false) e0 e1 e2 e3 e4⟩
       ·
        go_simp
        have hPre := hHeld; have y_B := And.intro hHeld.1.aw.glt (Nat.ne_of_lt hHeld.1.lt5); (try simp only [World.size_alloc] at y_B); have B9 := Lib.hid y_B; clear y_B
        refine hK.out _ _ ?_ (fun hHeld => ?_)
        · (try dsimp only); exact HALL.out _ (hHeld.1.below (alloc1 _ _))
        clear hK K
        (try simp only [Act.put, sA, sB, sC])
        have y_V9 := vb_at hHeld.1
        (try simp only [World.size_alloc] at y_V9)
        have V9 := Lib.hid y_V9
        clear y_V9
        have y_F4 := F4.out.below (bel_at hHeld.1)
        clear F4
        have F4 := Lib.hid y_F4
        clear y_F4
        refine wpAnyH_ready (rs := [5]) (by kernel_rfl) (by simp) ?_
        refine AllReadyH.cons (o := ?o153) ?ho153 (fun K hK => ?st153) AllReadyH.nil
        case ho153 => (simp only [gA, gB, gC]; rfl)
        go_simp
        refine (on.out 7 _ _ _ _).mono ?_; rintro e w4 ⟨rfl, h4⟩; have y_F4 := F4.out.below (h4); clear F4; have F4 := Lib.hid y_F4; clear y_F4; have y_V9 := V9.out.below (h4); clear V9; have V9 := Lib.hid y_V9; clear y_V9
        refine hK.out _ _ ?_ (fun hHeld => ?_)
        · (try dsimp only); exact HALL.out _ (hHeld.1.below h4)
        clear hK K
        (try simp only [Act.put, sA, sB, sC])
        refine wpAnyH_ready (rs := [7]) (by kernel_rfl) (by simp) ?_
        refine AllReadyH.cons (o := ?o154) ?ho154 (fun K hK => ?st154) AllReadyH.nil
        case ho154 => (simp only [gA, gB, gC]; rfl)
        go_simp
        refine hK.out _ _ ?_ (fun hHeld => ?_)
        · (try dsimp only); exact HALL.out _ (hHeld.1.below (alloc1 _ _))
        clear hK K
        (try simp only [Act.put, sA, sB, sC])
        have y_F7 := two_at (opX 7 [conX (vInt 1), conX (vInt 0)]) (conX (vInt 1)) 8 hHeld.1 F4.out (ExE.leaf _ (conX (vInt 1)) rfl)
        (try simp only [World.size_alloc] at y_F7)
        clear F4
        have F7 := Lib.hid y_F7
        clear y_F7
        have y_V9 := V9.out.below (bel_at hHeld.1)
        clear V9
        have V9 := Lib.hid y_V9
        clear y_V9
        refine wpAnyH_ready (rs := [8]) (by kernel_rfl) (by simp) ?_
        refine AllReadyH.cons (o := ?o155) ?ho155 (fun K hK => ?st155) AllReadyH.nil
        case ho155 => (simp only [gA, gB, gC]; rfl)
        go_simp
        refine (on.out 8 _ _ _ _).mono ?_; rintro e w6 ⟨rfl, h6⟩; have y_V9 := V9.out.below (h6); clear V9; have V9 := Lib.hid y_V9; clear y_V9; have y_F7 := F7.out.below (h6); clear F7; have F7 := Lib.hid y_F7; clear y_F7
        refine hK.out _ _ ?_ (fun hHeld => ?_)
        · (try dsimp only); exact HALL.out _ (hHeld.1.below h6)
        clear hK K
        (try simp only [Act.put, sA, sB, sC])
        refine wpAnyH_ready (rs := [9]) (by kernel_rfl) (by simp) ?_
        refine AllReadyH.cons (o := ?o156) ?ho156 (fun K hK => ?st156) AllReadyH.nil
        case ho156 => (simp only [gA, gB, gC]; rfl)
        go_simp
        refine hK.out _ _ ?_ (fun hHeld => ?_)
        · (try dsimp only); exact HALL.out _ (hHeld.1.below (alloc1 _ _))
        clear hK K
        (try simp only [Act.put, sA, sB, sC])
        have y_F9 := two_at (conX (vTruth false)) nought 10 hHeld.1 (ExE.leaf _ (conX (vTruth false)) rfl) F7.out
        (try simp only [World.size_alloc] at y_F9)
        clear F7
        have F9 := Lib.hid y_F9
        clear y_F9
        have y_V9 := V9.out.below (bel_at hHeld.1)
        clear V9
        have V9 := Lib.hid y_V9
        clear y_V9
        refine wpAnyH_ready (rs := [10]) (by kernel_rfl) (by simp) ?_
        refine AllReadyH.cons (o := ?o157) ?ho157 (fun K hK => ?st157) AllReadyH.nil
        case ho157 => (simp only [gA, gB, gC]; rfl)
        go_simp
        refine (on.out 10 _ _ _ _).mono ?_; rintro e w8 ⟨rfl, h8⟩; have y_V9 := V9.out.below (h8); clear V9; have V9 := Lib.hid y_V9; clear y_V9; have y_F9 := F9.out.below (h8); clear F9; have F9 := Lib.hid y_F9; clear y_F9
        refine hK.out _ _ ?_ (fun hHeld => ?_)
        · (try dsimp only); exact HALL.out _ (hHeld.1.below h8)
        clear hK K
        (try simp only [Act.put, sA, sB, sC])
        refine wpAnyH_ready (rs := [11]) (by kernel_rfl) (by simp) ?_
        refine AllReadyH.cons (o := ?o158) ?ho158 (fun K hK => ?st158) AllReadyH.nil
        case ho158 => (simp only [gA, gB, gC]; rfl)
        go_simp
        refine (eval_at F9.out (fdk_none _) (vlk_none _) (ok_two (in64_lit (by decide) (by decide)) (ok_con (ok_truth false)) (ok_two (in64_lit (by decide) (by decide)) (ok_two (in64_lit (by decide) (by decide)) (ok_con (ok_int (in64_lit (by decide) (by decide)))) (ok_con (ok_int (in64_lit (by decide) (by decide))))) (ok_con (ok_int (in64_lit (by decide) (by decide)))))) (fun v hv => by cases hv) aw_3).mono ?_; rintro e w9 ⟨rfl, h9⟩; clear F9; have y_V9 := V9.out.below (h9); clear V9; have V9 := Lib.hid y_V9; clear y_V9
        refine hK.out _ _ ?_ (fun hHeld => ?_)
        · (try dsimp only); exact HALL.out _ (hHeld.1.below h9)
        clear hK K
        (try simp only [Act.put, sA, sB, sC])
        refine wpAnyH_take (i := 12) (oi := ?oi159) (v := ?v159) ?hi159 (by kernel_rfl) (by kernel_rfl) (by kernel_rfl) ?hQ159 (Or.inl ⟨?hw159, ?hy159⟩) (by assumption) ?rest159
        case hi159 => (simp only [gA, gB, gC]; rfl)
        case hQ159 => exact fun _ _ _ h => h
        case hw159 => rfl
        case hy159 => (intro w hSw; (try dsimp only at hSw); go_simp; try with_reducible rfl)
        (try simp only [Act.put, sA, sB, sC])
        refine wpAnyH_take (i := 13) (oi := ?oi160) (v := ?v160) ?hi160 (by kernel_rfl) (by kernel_rfl) (by kernel_rfl) ?hQ160 (Or.inl ⟨?hw160, ?hy160⟩) (by assumption) ?rest160
        case hi160 => (simp only [gA, gB, gC]; rfl)
        case hQ160 => exact fun _ _ _ h => h
        case hw160 => rfl
        case hy160 => (intro w hSw; (try dsimp only at hSw); go_simp; try with_reducible rfl)
        (try simp only [Act.put, sA, sB, sC])
        refine wpAnyH_take (i := 14) (oi := ?oi161) (v := ?v161) ?hi161 (by kernel_rfl) (by kernel_rfl) (by kernel_rfl) ?hQ161 (Or.inl ⟨?hw161, ?hy161⟩) (by assumption) ?rest161
        case hi161 => (simp only [gA, gB, gC]; rfl)
        case hQ161 => exact fun _ _ _ h => h
        case hw161 => rfl
        case hy161 => (intro w hSw; (try dsimp only at hSw); go_simp; try with_reducible rfl)
        (try simp only [Act.put, sA, sB, sC])
        obtain ⟨u0, u1, u2, u3, u4, e0, e1, e2, e3, e4, ef⟩ := V9.out.open
        refine wpAnyH_ready (rs := [16]) (by kernel_rfl) (by simp) ?_
        refine AllReadyH.cons (o := ?o162) ?ho162 (fun K hK => ?st162) AllReadyH.nil
        case ho162 => (simp only [gA, gB, gC]; rfl)
        go_simp
        refine hK.out _ _ ?_ (fun hHeld => ?_)
        · (try dsimp only); exact HALL.out _ (AwC.set5 hHeld.1 B9.out.1 HG.out.1 HG.out.2 B9.out.2 _ _ _ _ _)
        clear hK K
        (try simp only [Act.put, sA, sB, sC])
        refine wpAnyH_take (i := 17) (oi := ?oi163) (v := ?v163) ?hi163 (by kernel_rfl) (by kernel_rfl) (by kernel_rfl) ?hQ163 (Or.inl ⟨?hw163, ?hy163⟩) (by assumption) ?rest163
        case hi163 => (simp only [gA, gB, gC]; rfl)
        case hQ163 => exact fun _ _ _ h => h
        case hw163 => rfl
        case hy163 => (intro w hSw; (try dsimp only at hSw); go_simp; try with_reducible rfl)
        (try simp only [Act.put, sA, sB, sC])
        refine wpAnyH_done (by kernel_rfl) ?_ _
        go_wp2_with fail
        go_meet
        exact ⟨_, rfl, rfl, hHeld.1, bx_set (r := vTruth false) e0 e1 e2 e3 e4⟩
      ·
       go_simp
       have hPre := hHeld; have y_B := And.intro hHeld.1.aw.glt (Nat.ne_of_lt hHeld.1.lt5); (try simp only [World.size_alloc] at y_B); have B9 := Lib.hid y_B; clear y_B
       refine hK.out _ _ ?_ (fun hHeld => ?_)
       · (try dsimp only); exact HALL.out _ (hHeld.1.below (alloc1 _ _))
       clear hK K
       (try simp only [Act.put, sA, sB, sC])
       have y_V9 := vb_at hHeld.1
       (try simp only [World.size_alloc] at y_V9)
       have V9 := Lib.hid y_V9
       clear y_V9
       have y_F4 := F4.out.below (bel_at hHeld.1)
       clear F4
       have F4 := Lib.hid y_F4
       clear y_F4
       refine wpAnyH_ready (rs := [1]) (by kernel_rfl) (by simp) ?_
       refine AllReadyH.cons (o := ?o164) ?ho164 (fun K hK => ?st164) AllReadyH.nil
       case ho164 => (simp only [gA, gB, gC]; rfl)
       go_simp
       refine (cn.out (vTruth false) _).mono ?_; rintro e w3 ⟨rfl, h3⟩; have y_F4 := F4.out.below (h3); clear F4; have F4 := Lib.hid y_F4; clear y_F4; have y_V9 := V9.out.below (h3); clear V9; have V9 := Lib.hid y_V9; clear y_V9
       refine hK.out _ _ ?_ (fun hHeld => ?_)
       · (try dsimp only); exact HALL.out _ (hHeld.1.below h3)
       clear hK K
       (try simp only [Act.put, sA, sB, sC])
       refine wpAnyH_ready (rs := [5]) (by kernel_rfl) (by simp) ?_
       refine AllReadyH.cons (o := ?o165) ?ho165 (fun K hK => ?st165) AllReadyH.nil
       case ho165 => (simp only [gA, gB, gC]; rfl)
       go_simp
       refine (on.out 7 _ _ _ _).mono ?_; rintro e w4 ⟨rfl, h4⟩; have y_F4 := F4.out.below (h4); clear F4; have F4 := Lib.hid y_F4; clear y_F4; have y_V9 := V9.out.below (h4); clear V9; have V9 := Lib.hid y_V9; clear y_V9
       refine hK.out _ _ ?_ (fun hHeld => ?_)
       · (try dsimp only); exact HALL.out _ (hHeld.1.below h4)
       clear hK K
       (try simp only [Act.put, sA, sB, sC])
       refine wpAnyH_ready (rs := [7]) (by kernel_rfl) (by simp) ?_
       refine AllReadyH.cons (o := ?o166) ?ho166 (fun K hK => ?st166) AllReadyH.nil
       case ho166 => (simp only [gA, gB, gC]; rfl)
       go_simp
       refine hK.out _ _ ?_ (fun hHeld => ?_)
       · (try dsimp only); exact HALL.out _ (hHeld.1.below (alloc1 _ _))
       clear hK K
       (try simp only [Act.put, sA, sB, sC])
       have y_F7 := two_at (opX 7 [conX (vInt 1), conX (vInt 0)]) (conX (vInt 1)) 8 hHeld.1 F4.out (ExE.leaf _ (conX (vInt 1)) rfl)
       (try simp only [World.size_alloc] at y_F7)
       clear F4
       have F7 := Lib.hid y_F7
       clear y_F7
       have y_V9 := V9.out.below (bel_at hHeld.1)
       clear V9
       have V9 := Lib.hid y_V9
       clear y_V9
       refine wpAnyH_ready (rs := [8]) (by kernel_rfl) (by simp) ?_
       refine AllReadyH.cons (o := ?o167) ?ho167 (fun K hK => ?st167) AllReadyH.nil
       case ho167 => (simp only [gA, gB, gC]; rfl)
       go_simp
       refine (on.out 8 _ _ _ _).mono ?_; rintro e w6 ⟨rfl, h6⟩; have y_V9 := V9.out.below (h6); clear V9; have V9 := Lib.hid y_V9; clear y_V9; have y_F7 := F7.out.below (h6); clear F7; have F7 := Lib.hid y_F7; clear y_F7
       refine hK.out _ _ ?_ (fun hHeld => ?_)
       · (try dsimp only); exact HALL.out _ (hHeld.1.below h6)
       clear hK K
       (try simp only [Act.put, sA, sB, sC])
       refine wpAnyH_ready (rs := [9]) (by kernel_rfl) (by simp) ?_
       refine AllReadyH.cons (o := ?o168) ?ho168 (fun K hK => ?st168) AllReadyH.nil
       case ho168 => (simp only [gA, gB, gC]; rfl)
       go_simp
       refine hK.out _ _ ?_ (fun hHeld => ?_)
       · (try dsimp only); exact HALL.out _ (hHeld.1.below (alloc1 _ _))
       clear hK K
       (try simp only [Act.put, sA, sB, sC])
       have y_F9 := two_at (conX (vTruth false)) nought 10 hHeld.1 (ExE.leaf _ (conX (vTruth false)) rfl) F7.out
       (try simp only [World.size_alloc] at y_F9)
       clear F7
       have F9 := Lib.hid y_F9
       clear y_F9
       have y_V9 := V9.out.below (bel_at hHeld.1)
       clear V9
       have V9 := Lib.hid y_V9
       clear y_V9
       refine wpAnyH_ready (rs := [10]) (by kernel_rfl) (by simp) ?_
       refine AllReadyH.cons (o := ?o169) ?ho169 (fun K hK => ?st169) AllReadyH.nil
       case ho169 => (simp only [gA, gB, gC]; rfl)
       go_simp
       refine (on.out 10 _ _ _ _).mono ?_; rintro e w8 ⟨rfl, h8⟩; have y_V9 := V9.out.below (h8); clear V9; have V9 := Lib.hid y_V9; clear y_V9; have y_F9 := F9.out.below (h8); clear F9; have F9 := Lib.hid y_F9; clear y_F9
       refine hK.out _ _ ?_ (fun hHeld => ?_)
       · (try dsimp only); exact HALL.out _ (hHeld.1.below h8)
       clear hK K
       (try simp only [Act.put, sA, sB, sC])
       refine wpAnyH_ready (rs := [11]) (by kernel_rfl) (by simp) ?_
       refine AllReadyH.cons (o := ?o170) ?ho170 (fun K hK => ?st170) AllReadyH.nil
       case ho170 => (simp only [gA, gB, gC]; rfl)
       go_simp
       refine (eval_at F9.out (fdk_none _) (vlk_none _) (ok_two (in64_lit (by decide) (by decide)) (ok_con (ok_truth false)) (ok_two (in64_lit (by decide) (by decide)) (ok_two (in64_lit (by decide) (by decide)) (ok_con (ok_int (in64_lit (by decide) (by decide)))) (ok_con (ok_int (in64_lit (by decide) (by decide))))) (ok_con (ok_int (in64_lit (by decide) (by decide)))))) (fun v hv => by cases hv) aw_3).mono ?_; rintro e w9 ⟨rfl, h9⟩; clear F9; have y_V9 := V9.out.below (h9); clear V9; have V9 := Lib.hid y_V9; clear y_V9
       refine hK.out _ _ ?_ (fun hHeld => ?_)
       · (try dsimp only); exact HALL.out _ (hHeld.1.below h9)
       clear hK K
       (try simp only [Act.put, sA, sB, sC])
       refine wpAnyH_take (i := 12) (oi := ?oi171) (v := ?v171) ?hi171 (by kernel_rfl) (by kernel_rfl) (by kernel_rfl) ?hQ171 (Or.inl ⟨?hw171, ?hy171⟩) (by assumption) ?rest171
       case hi171 => (simp only [gA, gB, gC]; rfl)
       case hQ171 => exact fun _ _ _ h => h
       case hw171 => rfl
       case hy171 => (intro w hSw; (try dsimp only at hSw); go_simp; try with_reducible rfl)
       (try simp only [Act.put, sA, sB, sC])
       refine wpAnyH_take (i := 13) (oi := ?oi172) (v := ?v172) ?hi172 (by kernel_rfl) (by kernel_rfl) (by kernel_rfl) ?hQ172 (Or.inl ⟨?hw172, ?hy172⟩) (by assumption) ?rest172
       case hi172 => (simp only [gA, gB, gC]; rfl)
       case hQ172 => exact fun _ _ _ h => h
       case hw172 => rfl
       case hy172 => (intro w hSw; (try dsimp only at hSw); go_simp; try with_reducible rfl)
       (try simp only [Act.put, sA, sB, sC])
       refine wpAnyH_take (i := 14) (oi := ?oi173) (v := ?v173) ?hi173 (by kernel_rfl) (by kernel_rfl) (by kernel_rfl) ?hQ173 (Or.inl ⟨?hw173, ?hy173⟩) (by assumption) ?rest173
       case hi173 => (simp only [gA, gB, gC]; rfl)
       case hQ173 => exact fun _ _ _ h => h
       case hw173 => rfl
       case hy173 => (intro w hSw; (try dsimp only at hSw); go_simp; try with_reducible rfl)
       (try simp only [Act.put, sA, sB, sC])
       obtain ⟨u0, u1, u2, u3, u4, e0, e1, e2, e3, e4, ef⟩ := V9.out.open
       refine wpAnyH_ready (rs := [16]) (by kernel_rfl) (by simp) ?_
       refine AllReadyH.cons (o := ?o174) ?ho174 (fun K hK => ?st174) AllReadyH.nil
       case ho174 => (simp only [gA, gB, gC]; rfl)
       go_simp
       refine hK.out _ _ ?_ (fun hHeld => ?_)
       · (try dsimp only); exact HALL.out _ (AwC.set5 hHeld.1 B9.out.1 HG.out.1 HG.out.2 B9.out.2 _ _ _ _ _)
       clear hK K
       (try simp only [Act.put, sA, sB, sC])
       refine wpAnyH_take (i := 17) (oi := ?oi175) (v := ?v175) ?hi175 (by kernel_rfl) (by kernel_rfl) (by kernel_rfl) ?hQ175 (Or.inl ⟨?hw175, ?hy175⟩) (by assumption) ?rest175
       case hi175 => (simp only [gA, gB, gC]; rfl)
       case hQ175 => exact fun _ _ _ h => h
       case hw175 => rfl
       case hy175 => (intro w hSw; (try dsimp only at hSw); go_simp; try with_reducible rfl)
       (try simp only [Act.put, sA, sB, sC])
       refine wpAnyH_done (by kernel_rfl) ?_ _
       go_wp2_with fail
       go_meet
       exact ⟨_, rfl, rfl, hHeld.1, bx_set (r := vTruth false) e0 e1 e2 e3 e4⟩
     ·
      go_simp
      have hPre := hHeld; have y_B := And.intro hHeld.1.aw.glt (Nat.ne_of_lt hHeld.1.lt5); (try simp only [World.size_alloc] at y_B); have B9 := Lib.hid y_B; clear y_B
      refine hK.out _ _ ?_ (fun hHeld => ?_)
      · (try dsimp only); exact HALL.out _ (hHeld.1.below (alloc1 _ _))
      clear hK K
      (try simp only [Act.put, sA, sB, sC])
      have y_V9 := vb_at hHeld.1
      (try simp only [World.size_alloc] at y_V9)
      have V9 := Lib.hid y_V9
      clear y_V9
      refine wpAnyH_ready (rs := [1, 4]) (by kernel_rfl) (by simp) ?_
      refine AllReadyH.cons (o := ?o176) ?ho176 (fun K hK => ?st176) (AllReadyH.cons (o := ?o177) ?ho177 (fun K hK => ?st177) AllReadyH.nil)
      case ho176 => (simp only [gA, gB, gC]; rfl)
      case ho177 => (simp only [gA, gB, gC]; rfl)
      ·
       go_simp
       refine (cn.out (vTruth false) _).mono ?_; rintro e w2 ⟨rfl, h2⟩; have y_V9 := V9.out.below (h2); clear V9; have V9 := Lib.hid y_V9; clear y_V9
       refine hK.out _ _ ?_ (fun hHeld => ?_)
       · (try dsimp only); exact HALL.out _ (hHeld.1.below h2)
       clear hK K
       (try simp only [Act.put, sA, sB, sC])
       refine wpAnyH_ready (rs := [4]) (by kernel_rfl) (by simp) ?_
       refine AllReadyH.cons (o := ?o178) ?ho178 (fun K hK => ?st178) AllReadyH.nil
       case ho178 => (simp only [gA, gB, gC]; rfl)
       go_simp
       refine hK.out _ _ ?_ (fun hHeld => ?_)
       · (try dsimp only); exact HALL.out _ (hHeld.1.below (alloc1 _ _))
       clear hK K
       (try simp only [Act.put, sA, sB, sC])
       have y_F4 := two_at (conX (vInt 1)) (conX (vInt 0)) 7 hHeld.1 (ExE.leaf _ (conX (vInt 1)) rfl) (ExE.leaf _ (conX (vInt 0)) rfl)
       (try simp only [World.size_alloc] at y_F4)
       have F4 := Lib.hid y_F4
       clear y_F4
       have y_V9 := V9.out.below (bel_at hHeld.1)
       clear V9
       have V9 := Lib.hid y_V9
       clear y_V9
       refine wpAnyH_ready (rs := [5]) (by kernel_rfl) (by simp) ?_
       refine AllReadyH.cons (o := ?o179) ?ho179 (fun K hK => ?st179) AllReadyH.nil
       case ho179 => (simp only [gA, gB, gC]; rfl)
       go_simp
       refine (on.out 7 _ _ _ _).mono ?_; rintro e w4 ⟨rfl, h4⟩; have y_V9 := V9.out.below (h4); clear V9; have V9 := Lib.hid y_V9; clear y_V9; have y_F4 := F4.out.below (h4); clear F4; have F4 := Lib.hid y_F4; clear y_F4
       refine hK.out _ _ ?_ (fun hHeld => ?_)
       · (try dsimp only); exact HALL.out _ (hHeld.1.below h4)
       clear hK K
       (try simp only [Act.put, sA, sB, sC])
       refine wpAnyH_ready (rs := [7]) (by kernel_rfl) (by simp) ?_
       refine AllReadyH.cons (o := ?o180) ?ho180 (fun K hK => ?st180) AllReadyH.nil
       case ho180 => (simp only [gA, gB, gC]; rfl)
       go_simp
       refine hK.out _ _ ?_ (fun hHeld => ?_)
       · (try dsimp only); exact HALL.out _ (hHeld.1.below (alloc1 _ _))
       clear hK K
       (try simp only [Act.put, sA, sB, sC])
       have y_F7 := two_at (opX 7 [conX (vInt 1), conX (vInt 0)]) (conX (vInt 1)) 8 hHeld.1 F4.out (ExE.leaf _ (conX (vInt 1)) rfl)
       (try simp only [World.size_alloc] at y_F7)
       clear F4
       have F7 := Lib.hid y_F7
       clear y_F7
       have y_V9 := V9.out.below (bel_at hHeld.1)
       clear V9
       have V9 := Lib.hid y_V9
       clear y_V9
       refine wpAnyH_ready (rs := [8]) (by kernel_rfl) (by simp) ?_
       refine AllReadyH.cons (o := ?o181) ?ho181 (fun K hK => ?st181) AllReadyH.nil
       case ho181 => (simp only [gA, gB, gC]; rfl)
       go_simp
       refine (on.out 8 _ _ _ _).mono ?_; rintro e w6 ⟨rfl, h6⟩; have y_V9 := V9.out.below (h6); clear V9; have V9 := Lib.hid y_V9; clear y_V9; have y_F7 := F7.out.below (h6); clear F7; have F7 := Lib.hid y_F7; clear y_F7
       refine hK.out _ _ ?_ (fun hHeld => ?_)
       · (try dsimp only); exact HALL.out _ (hHeld.1.below h6)
       clear hK K
       (try simp only [Act.put, sA, sB, sC])
       refine wpAnyH_ready (rs := [9]) (by kernel_rfl) (by simp) ?_
       refine AllReadyH.cons (o := ?o182) ?ho182 (fun K hK => ?st182) AllReadyH.nil
       case ho182 => (simp only [gA, gB, gC]; rfl)
       go_simp
       refine hK.out _ _ ?_ (fun hHeld => ?_)
       · (try dsimp only); exact HALL.out _ (hHeld.1.below (alloc1 _ _))
       clear hK K
       (try simp only [Act.put, sA, sB, sC])
       have y_F9 := two_at (conX (vTruth false)) nought 10 hHeld.1 (ExE.leaf _ (conX (vTruth false)) rfl) F7.out
       (try simp only [World.size_alloc] at y_F9)
       clear F7
       have F9 := Lib.hid y_F9
       clear y_F9
       have y_V9 := V9.out.below (bel_at hHeld.1)
       clear V9
       have V9 := Lib.hid y_V9
       clear y_V9
       refine wpAnyH_ready (rs := [10]) (by kernel_rfl) (by simp) ?_
       refine AllReadyH.cons (o := ?o183) ?ho183 (fun K hK => ?st183) AllReadyH.nil
       case ho183 => (simp only [gA, gB, gC]; rfl)
       go_simp
       refine (on.out 10 _ _ _ _).mono ?_; rintro e w8 ⟨rfl, h8⟩; have y_V9 := V9.out.below (h8); clear V9; have V9 := Lib.hid y_V9; clear y_V9; have y_F9 := F9.out.below (h8); clear F9; have F9 := Lib.hid y_F9; clear y_F9
       refine hK.out _ _ ?_ (fun hHeld => ?_)
       · (try dsimp only); exact HALL.out _ (hHeld.1.below h8)
       clear hK K
       (try simp only [Act.put, sA, sB, sC])
       refine wpAnyH_ready (rs := [11]) (by kernel_rfl) (by simp) ?_
       refine AllReadyH.cons (o := ?o184) ?ho184 (fun K hK => ?st184) AllReadyH.nil
       case ho184 => (simp only [gA, gB, gC]; rfl)
       go_simp
       refine (eval_at F9.out (fdk_none _) (vlk_none _) (ok_two (in64_lit (by decide) (by decide)) (ok_con (ok_truth false)) (ok_two (in64_lit (by decide) (by decide)) (ok_two (in64_lit (by decide) (by decide)) (ok_con (ok_int (in64_lit (by decide) (by decide)))) (ok_con (ok_int (in64_lit (by decide) (by decide))))) (ok_con (ok_int (in64_lit (by decide) (by decide)))))) (fun v hv => by cases hv) aw_3).mono ?_; rintro e w9 ⟨rfl, h9⟩; clear F9; have y_V9 := V9.out.below (h9); clear V9; have V9 := Lib.hid y_V9; clear y_V9
       refine hK.out _ _ ?_ (fun hHeld => ?_)
       · (try dsimp only); exact HALL.out _ (hHeld.1.below h9)
       clear hK K
       (try simp only [Act.put, sA, sB, sC])
       refine wpAnyH_take (i := 12) (oi := ?oi185) (v := ?v185) ?hi185 (by kernel_rfl) (by kernel_rfl) (by kernel_rfl) ?hQ185 (Or.inl ⟨?hw185, ?hy185⟩) (by assumption) ?rest185
       case hi185 => (simp only [gA, gB, gC]; rfl)
       case hQ185 => exact fun _ _ _ h => h
       case hw185 => rfl
       case hy185 => (intro w hSw; (try dsimp only at hSw); go_simp; try with_reducible rfl)
       (try simp only [Act.put, sA, sB, sC])
       refine wpAnyH_take (i := 13) (oi := ?oi186) (v := ?v186) ?hi186 (by kernel_rfl) (by kernel_rfl) (by kernel_rfl) ?hQ186 (Or.inl ⟨?hw186, ?hy186⟩) (by assumption) ?rest186
       case hi186 => (simp only [gA, gB, gC]; rfl)
       case hQ186 => exact fun _ _ _ h => h
       case hw186 => rfl
       case hy186 => (intro w hSw; (try dsimp only at hSw); go_simp; try with_reducible rfl)
       (try simp only [Act.put, sA, sB, sC])
       refine wpAnyH_take (i := 14) (oi := ?oi187) (v := ?v187) ?hi187 (by kernel_rfl) (by kernel_rfl) (by kernel_rfl) ?hQ187 (Or.inl ⟨?hw187, ?hy187⟩) (by assumption) ?rest187
       case hi187 => (simp only [gA, gB, gC]; rfl)
       case hQ187 => exact fun _ _ _ h => h
       case hw187 => rfl
       case hy187 => (intro w hSw; (try dsimp only at hSw); go_simp; try with_reducible rfl)
       (try simp only [Act.put, sA, sB, sC])
       obtain ⟨u0, u1, u2, u3, u4, e0, e1, e2, e3, e4, ef⟩ := V9.out.open
       refine wpAnyH_ready (rs := [16]) (by kernel_rfl) (by simp) ?_
       refine AllReadyH.cons (o := ?o188) ?ho188 (fun K hK => ?st188) AllReadyH.nil
       case ho188 => (simp only [gA, gB, gC]; rfl)
       go_simp
       refine hK.out _ _ ?_ (fun hHeld => ?_)
       · (try dsimp only); exact HALL.out _ (AwC.set5 hHeld.1 B9.out.1 HG.out.1 HG.out.2 B9.out.2 _ _ _ _ _)
       clear hK K
       (try simp only [Act.put, sA, sB, sC])
       refine wpAnyH_take (i := 17) (oi := ?oi189) (v := ?v189) ?hi189 (by kernel_rfl) (by kernel_rfl) (by kernel_rfl) ?hQ189 (Or.inl ⟨?hw189, ?hy189⟩) (by assumption) ?rest189
       case hi189 => (simp only [gA, gB, gC]; rfl)
       case hQ189 => exact fun _ _ _ h => h
       case hw189 => rfl
       case hy189 => (intro w hSw; (try dsimp only at hSw); go_simp; try with_reducible rfl)
       (try simp only [Act.put, sA, sB, sC])
       refine wpAnyH_done (by kernel_rfl) ?_ _
       go_wp2_with fail
       go_meet
       exact ⟨_, rfl, rfl, hHeld.1, bx_set (r := vTruth false) e0 e1 e2 e3 e4⟩
      ·
       go_simp
       refine hK.out _ _ ?_ (fun hHeld => ?_)
       · (try dsimp only); exact HALL.out _ (hHeld.1.below (alloc1 _ _))
       clear hK K
       (try simp only [Act.put, sA, sB, sC])
       have y_F4 := two_at (conX (vInt 1)) (conX (vInt 0)) 7 hHeld.1 (ExE.leaf _ (conX (vInt 1)) rfl) (ExE.leaf _ (conX (vInt 0)) rfl)
       (try simp only [World.size_alloc] at y_F4)
       have F4 := Lib.hid y_F4
       clear y_F4
       have y_V9 := V9.out.below (bel_at hHeld.1)
       clear V9
       have V9 := Lib.hid y_V9
       clear y_V9
       refine wpAnyH_ready (rs := [1]) (by kernel_rfl) (by simp) ?_
       refine AllReadyH.cons (o := ?o190) ?ho190 (fun K hK => ?st190) AllReadyH.nil
       case ho190 => (simp only [gA, gB, gC]; rfl)
       go_simp
       refine (cn.out (vTruth false) _).mono ?_; rintro e w3 ⟨rfl, h3⟩; have y_V9 := V9.out.below (h3); clear V9; have V9 := Lib.hid y_V9; clear y_V9; have y_F4 := F4.out.below (h3); clear F4; have F4 := Lib.hid y_F4; clear y_F4
       refine hK.out _ _ ?_ (fun hHeld => ?_)
       · (try dsimp only); exact HALL.out _ (hHeld.1.below h3)
       clear hK K
       (try simp only [Act.put, sA, sB, sC])
       refine wpAnyH_ready (rs := [5]) (by kernel_rfl) (by simp) ?_
       refine AllReadyH.cons (o := ?o191) ?ho191 (fun K hK => ?st191) AllReadyH.nil
       case ho191 => (simp only [gA, gB, gC]; rfl)
       go_simp
       refine (on.out 7 _ _ _ _).mono ?_; rintro e w4 ⟨rfl, h4⟩; have y_V9 := V9.out.below (h4); clear V9; have V9 := Lib.hid y_V9; clear y_V9; have y_F4 := F4.out.below (h4); clear F4; have F4 := Lib.hid y_F4; clear y_F4
       refine hK.out _ _ ?_ (fun hHeld => ?_)
       · (try dsimp only); exact HALL.out _ (hHeld.1.below h4)
       clear hK K
       (try simp only [Act.put, sA, sB, sC])
       refine wpAnyH_ready (rs := [7]) (by kernel_rfl) (by simp) ?_
       refine AllReadyH.cons (o := ?o192) ?ho192 (fun K hK => ?st192) AllReadyH.nil
       case ho192 => (simp only [gA, gB, gC]; rfl)
       go_simp
       refine hK.out _ _ ?_ (fun hHeld => ?_)
       · (try dsimp only); exact HALL.out _ (hHeld.1.below (alloc1 _ _))
       clear hK K
       (try simp only [Act.put, sA, sB, sC])
       have y_F7 := two_at (opX 7 [conX (vInt 1), conX (vInt 0)]) (conX (vInt 1)) 8 hHeld.1 F4.out (ExE.leaf _ (conX (vInt 1)) rfl)
       (try simp only [World.size_alloc] at y_F7)
       clear F4
       have F7 := Lib.hid y_F7
       clear y_F7
       have y_V9 := V9.out.below (bel_at hHeld.1)
       clear V9
       have V9 := Lib.hid y_V9
       clear y_V9
       refine wpAnyH_ready (rs := [8]) (by kernel_rfl) (by simp) ?_
       refine AllReadyH.cons (o := ?o193) ?ho193 (fun K hK => ?st193) AllReadyH.nil
       case ho193 => (simp only [gA, gB, gC]; rfl)
       go_simp
       refine (on.out 8 _ _ _ _).mono ?_; rintro e w6 ⟨rfl, h6⟩; have y_V9 := V9.out.below (h6); clear V9; have V9 := Lib.hid y_V9; clear y_V9; have y_F7 := F7.out.below (h6); clear F7; have F7 := Lib.hid y_F7; clear y_F7
       refine hK.out _ _ ?_ (fun hHeld => ?_)
       · (try dsimp only); exact HALL.out _ (hHeld.1.below h6)
       clear hK K
       (try simp only [Act.put, sA, sB, sC])
       refine wpAnyH_ready (rs := [9]) (by kernel_rfl) (by simp) ?_
       refine AllReadyH.cons (o := ?o194) ?ho194 (fun K hK => ?st194) AllReadyH.nil
       case ho194 => (simp only [gA, gB, gC]; rfl)
       go_simp
       refine hK.out _ _ ?_ (fun hHeld => ?_)
       · (try dsimp only); exact HALL.out _ (hHeld.1.below (alloc1 _ _))
       clear hK K
       (try simp only [Act.put, sA, sB, sC])
       have y_F9 := two_at (conX (vTruth false)) nought 10 hHeld.1 (ExE.leaf _ (conX (vTruth false)) rfl) F7.out
       (try simp only [World.size_alloc] at y_F9)
       clear F7
       have F9 := Lib.hid y_F9
       clear y_F9
       have y_V9 := V9.out.below (bel_at hHeld.1)
       clear V9
       have V9 := Lib.hid y_V9
       clear y_V9
       refine wpAnyH_ready (rs := [10]) (by kernel_rfl) (by simp) ?_
       refine AllReadyH.cons (o := ?o195) ?ho195 (fun K hK => ?st195) AllReadyH.nil
       case ho195 => (simp only [gA, gB, gC]; rfl)
       go_simp
       refine (on.out 10 _ _ _ _).mono ?_; rintro e w8 ⟨rfl, h8⟩; have y_V9 := V9.out.below (h8); clear V9; have V9 := Lib.hid y_V9; clear y_V9; have y_F9 := F9.out.below (h8); clear F9; have F9 := Lib.hid y_F9; clear y_F9
       refine hK.out _ _ ?_ (fun hHeld => ?_)
       · (try dsimp only); exact HALL.out _ (hHeld.1.below h8)
       clear hK K
       (try simp only [Act.put, sA, sB, sC])
       refine wpAnyH_ready (rs := [11]) (by kernel_rfl) (by simp) ?_
       refine AllReadyH.cons (o := ?o196) ?ho196 (fun K hK => ?st196) AllReadyH.nil
       case ho196 => (simp only [gA, gB, gC]; rfl)
       go_simp
       refine (eval_at F9.out (fdk_none _) (vlk_none _) (ok_two (in64_lit (by decide) (by decide)) (ok_con (ok_truth false)) (ok_two (in64_lit (by decide) (by decide)) (ok_two (in64_lit (by decide) (by decide)) (ok_con (ok_int (in64_lit (by decide) (by decide)))) (ok_con (ok_int (in64_lit (by decide) (by decide))))) (ok_con (ok_int (in64_lit (by decide) (by decide)))))) (fun v hv => by cases hv) aw_3).mono ?_; rintro e w9 ⟨rfl, h9⟩; clear F9; have y_V9 := V9.out.below (h9); clear V9; have V9 := Lib.hid y_V9; clear y_V9
       refine hK.out _ _ ?_ (fun hHeld => ?_)
       · (try dsimp only); exact HALL.out _ (hHeld.1.below h9)
       clear hK K
       (try simp only [Act.put, sA, sB, sC])
       refine wpAnyH_take (i := 12) (oi := ?oi197) (v := ?v197) ?hi197 (by kernel_rfl) (by kernel_rfl) (by kernel_rfl) ?hQ197 (Or.inl ⟨?hw197, ?hy197⟩) (by assumption) ?rest197
       case hi197 => (simp only [gA, gB, gC]; rfl)
       case hQ197 => exact fun _ _ _ h => h
       case hw197 => rfl
       case hy197 => (intro w hSw; (try dsimp only at hSw); go_simp; try with_reducible rfl)
       (try simp only [Act.put, sA, sB, sC])
       refine wpAnyH_take (i := 13) (oi := ?oi198) (v := ?v198) ?hi198 (by kernel_rfl) (by kernel_rfl) (by kernel_rfl) ?hQ198 (Or.inl ⟨?hw198, ?hy198⟩) (by assumption) ?rest198
       case hi198 => (simp only [gA, gB, gC]; rfl)
       case hQ198 => exact fun _ _ _ h => h
       case hw198 => rfl
       case hy198 => (intro w hSw; (try dsimp only at hSw); go_simp; try with_reducible rfl)
       (try simp only [Act.put, sA, sB, sC])
       refine wpAnyH_take (i := 14) (oi := ?oi199) (v := ?v199) ?hi199 (by kernel_rfl) (by kernel_rfl) (by kernel_rfl) ?hQ199 (Or.inl ⟨?hw199, ?hy199⟩) (by assumption) ?rest199
       case hi199 => (simp only [gA, gB, gC]; rfl)
       case hQ199 => exact fun _ _ _ h => h
       case hw199 => rfl
       case hy199 => (intro w hSw; (try dsimp only at hSw); go_simp; try with_reducible rfl)
       (try simp only [Act.put, sA, sB, sC])
       obtain ⟨u0, u1, u2, u3, u4, e0, e1, e2, e3, e4, ef⟩ := V9.out.open
       refine wpAnyH_ready (rs := [16]) (by kernel_rfl) (by simp) ?_
       refine AllReadyH.cons (o := ?o200) ?ho200 (fun K hK => ?st200) AllReadyH.nil
       case ho200 => (simp only [gA, gB, gC]; rfl)
       go_simp
       refine hK.out _ _ ?_ (fun hHeld => ?_)
       · (try dsimp only); exact HALL.out _ (AwC.set5 hHeld.1 B9.out.1 HG.out.1 HG.out.2 B9.out.2 _ _ _ _ _)
       clear hK K
       (try simp only [Act.put, sA, sB, sC])
       refine wpAnyH_take (i := 17) (oi := ?oi201) (v := ?v201) ?hi201 (by kernel_rfl) (by kernel_rfl) (by kernel_rfl) ?hQ201 (Or.inl ⟨?hw201, ?hy201⟩) (by assumption) ?rest201
       case hi201 => (simp only [gA, gB, gC]; rfl)
       case hQ201 => exact fun _ _ _ h => h
       case hw201 => rfl
       case hy201 => (intro w hSw; (try dsimp only at hSw); go_simp; try with_reducible rfl)
       (try simp only [Act.put, sA, sB, sC])
       refine wpAnyH_done (by kernel_rfl) ?_ _
       go_wp2_with fail
       go_meet
       exact ⟨_, rfl, rfl, hHeld.1, bx_set (r := vTruth false) e0 e1 e2 e3 e4⟩
    ·
     go_simp
     refine hK.out _ _ ?_ (fun hHeld => ?_)
     · (try dsimp only); exact HALL.out _ (hHeld.1.below (alloc1 _ _))
     clear hK K
     (try simp only [Act.put, sA, sB, sC])
     have y_F4 := two_at (conX (vInt 1)) (conX (vInt 0)) 7 hHeld.1 (ExE.leaf _ (conX (vInt 1)) rfl) (ExE.leaf _ (conX (vInt 0)) rfl)
     (try simp only [World.size_alloc] at y_F4)
     have F4 := Lib.hid y_F4
     clear y_F4
     refine wpAnyH_ready (rs := [0, 15]) (by kernel_rfl) (by simp) ?_
     refine AllReadyH.cons (o := ?o202) ?ho202 (fun K hK => ?st202) (AllReadyH.cons (o := ?o203) ?ho203 (fun K hK => ?st203) AllReadyH.nil)
     case ho202 => (simp only [gA, gB, gC]; rfl)
     case ho203 => (simp only [gA, gB, gC]; rfl)
     ·
      go_simp
      refine (tf.out _).mono ?_; rintro e w1 ⟨rfl, h1⟩; have y_F4 := F4.out.below (h1); clear F4; have F4 := Lib.hid y_F4; clear y_F4
      refine hK.out _ _ ?_ (fun hHeld => ?_)
      · (try dsimp only); exact HALL.out _ (hHeld.1.below h1)
      clear hK K
      (try simp only [Act.put, sA, sB, sC])
      refine wpAnyH_ready (rs := [1, 15]) (by kernel_rfl) (by simp) ?_
      refine AllReadyH.cons (o := ?o204) ?ho204 (fun K hK => ?st204) (AllReadyH.cons (o := ?o205) ?ho205 (fun K hK => ?st205) AllReadyH.nil)
      case ho204 => (simp only [gA, gB, gC]; rfl)
      case ho205 => (simp only [gA, gB, gC]; rfl)
      ·
       go_simp
       refine (cn.out (vTruth false) _).mono ?_; rintro e w2 ⟨rfl, h2⟩; have y_F4 := F4.out.below (h2); clear F4; have F4 := Lib.hid y_F4; clear y_F4
       refine hK.out _ _ ?_ (fun hHeld => ?_)
       · (try dsimp only); exact HALL.out _ (hHeld.1.below h2)
       clear hK K
       (try simp only [Act.put, sA, sB, sC])
       refine wpAnyH_ready (rs := [5, 15]) (by kernel_rfl) (by simp) ?_
       refine AllReadyH.cons (o := ?o206) ?ho206 (fun K hK => ?st206) (AllReadyH.cons (o := ?o207) ?ho207 (fun K hK => ?st207) AllReadyH.nil)
       case ho206 => (simp only [gA, gB, gC]; rfl)
       case ho207 => (simp only [gA, gB, gC]; rfl)
       ·
        go_simp
        refine (on.out 7 _ _ _ _).mono ?_; rintro e w3 ⟨rfl, h3⟩; have y_F4 := F4.out.below (h3); clear F4; have F4 := Lib.hid y_F4; clear y_F4
        refine hK.out _ _ ?_ (fun hHeld => ?_)
        · (try dsimp only); exact HALL.out _ (hHeld.1.below h3)
        clear hK K
        (try simp only [Act.put, sA, sB, sC])
        refine wpAnyH_ready (rs := [7, 15]) (by kernel_rfl) (by simp) ?_
        refine AllReadyH.cons (o := ?o208) ?ho208 (fun K hK => ?st208) (AllReadyH.cons (o := ?o209) ?ho209 (fun K hK => ?st209) AllReadyH.nil)
        case ho208 => (simp only [gA, gB, gC]; rfl)
        case ho209 => (simp only [gA, gB, gC]; rfl)
        ·
         go_simp
         refine hK.out _ _ ?_ (fun hHeld => ?_)
         · (try dsimp only); exact HALL.out _ (hHeld.1.below (alloc1 _ _))
         clear hK K
         (try simp only [Act.put, sA, sB, sC])
         have y_F7 := two_at (opX 7 [conX (vInt 1), conX (vInt 0)]) (conX (vInt 1)) 8 hHeld.1 F4.out (ExE.leaf _ (conX (vInt 1)) rfl)
         (try simp only [World.size_alloc] at y_F7)
         clear F4
         have F7 := Lib.hid y_F7
         clear y_F7
         refine wpAnyH_ready (rs := [8, 15]) (by kernel_rfl) (by simp) ?_
         refine AllReadyH.cons (o := ?o210) ?ho210 (fun K hK => ?st210) (AllReadyH.cons (o := ?o211) ?ho211 (fun K hK => ?st211) AllReadyH.nil)
         case ho210 => (simp only [gA, gB, gC]; rfl)
         case ho211 => (simp only [gA, gB, gC]; rfl)
         ·
          go_simp
          refine (on.out 8 _ _ _ _).mono ?_; rintro e w5 ⟨rfl, h5⟩; have y_F7 := F7.out.below (h5); clear F7; have F7 := Lib.hid y_F7; clear y_F7
          refine hK.out _ _ ?_ (fun hHeld => ?_)
          · (try dsimp only); exact HALL.out _ (hHeld.1.below h5)
          clear hK K
          (try simp only [Act.put, sA, sB, sC])
          refine wpAnyH_ready (rs := [9, 15]) (by kernel_rfl) (by simp) ?_
          refine AllReadyH.cons (o := ?o212) ?ho212 (fun K hK => ?st212) (AllReadyH.cons (o := ?o213) ?ho213 (fun K hK => ?st213) AllReadyH.nil)
          case ho212 => (simp only [gA, gB, gC]; rfl)
          case ho213 => (simp only [gA, gB, gC]; rfl)
          ·
           go_simp
           refine hK.out _ _ ?_ (fun hHeld => ?_)
           · (try dsimp only); exact HALL.out _ (hHeld.1.below (alloc1 _ _))
           clear hK K
           (try simp only [Act.put, sA, sB, sC])
           have y_F9 := two_at (conX (vTruth false)) nought 10 hHeld.1 (ExE.leaf _ (conX (vTruth false)) rfl) F7.out
           (try simp only [World.size_alloc] at y_F9)
           clear F7
           have F9 := Lib.hid y_F9
           clear y_F9
           refine wpAnyH_ready (rs := [10, 15]) (by kernel_rfl) (by simp) ?_
           refine AllReadyH.cons (o := ?o214) ?ho214 (fun K hK => ?st214) (AllReadyH.cons (o := ?o215) ?ho215 (fun K hK => ?st215) AllReadyH.nil)
           case ho214 => (simp only [gA, gB, gC]; rfl)
           case ho215 => (simp only [gA, gB, gC]; rfl)
           ·
            go_simp
            refine (on.out 10 _ _ _ _).mono ?_; rintro e w7 ⟨rfl, h7⟩; have y_F9 := F9.out.below (h7); clear F9; have F9 := Lib.hid y_F9; clear y_F9
            refine hK.out _ _ ?_ (fun hHeld => ?_)
            · (try dsimp only); exact HALL.out _ (hHeld.1.below h7)
            clear hK K
            (try simp only [Act.put, sA, sB, sC])
            refine wpAnyH_ready (rs := [11, 15]) (by kernel_rfl) (by simp) ?_
            refine AllReadyH.cons (o := ?o216) ?ho216 (fun K hK => ?st216) (AllReadyH.cons (o := ?o217) ?ho217 (fun K hK => ?st217) AllReadyH.nil)
            case ho216 => (simp only [gA, gB, gC]; rfl)
            case ho217 => (simp only [gA, gB, gC]; rfl)
            ·
             go_simp
             refine (eval_at F9.out (fdk_none _) (vlk_none _) (ok_two (in64_lit (by decide) (by decide)) (ok_con (ok_truth false)) (ok_two (in64_lit (by decide) (by decide)) (ok_two (in64_lit (by decide) (by decide)) (ok_con (ok_int (in64_lit (by decide) (by decide)))) (ok_con (ok_int (in64_lit (by decide) (by decide))))) (ok_con (ok_int (in64_lit (by decide) (by decide)))))) (fun v hv => by cases hv) aw_3).mono ?_; rintro e w8 ⟨rfl, h8⟩; clear F9
             refine hK.out _ _ ?_ (fun hHeld => ?_)
             · (try dsimp only); exact HALL.out _ (hHeld.1.below h8)
             clear hK K
             (try simp only [Act.put, sA, sB, sC])
             refine wpAnyH_take (i := 12) (oi := ?oi218) (v := ?v218) ?hi218 (by kernel_rfl) (by kernel_rfl) (by kernel_rfl) ?hQ218 (Or.inl ⟨?hw218, ?hy218⟩) (by assumption) ?rest218
             case hi218 => (simp only [gA, gB, gC]; rfl)
             case hQ218 => exact fun _ _ _ h => h
             case hw218 => rfl
             case hy218 => (intro w hSw; (try dsimp only at hSw); go_simp; try with_reducible rfl)
             (try simp only [Act.put, sA, sB, sC])
             refine wpAnyH_take (i := 13) (oi := ?oi219) (v := ?v219) ?hi219 (by kernel_rfl) (by kernel_rfl) (by kernel_rfl) ?hQ219 (Or.inl ⟨?hw219, ?hy219⟩) (by assumption) ?rest219
             case hi219 => (simp only [gA, gB, gC]; rfl)
             case hQ219 => exact fun _ _ _ h => h
             case hw219 => rfl
             case hy219 => (intro w hSw; (try dsimp only at hSw); go_simp; try with_reducible rfl)
             (try simp only [Act.put, sA, sB, sC])
             refine wpAnyH_take (i := 14) (oi := ?oi220) (v := ?v220) ?hi220 (by kernel_rfl) (by kernel_rfl) (by kernel_rfl) ?hQ220 (Or.inl ⟨?hw220, ?hy220⟩) (by assumption) ?rest220
             case hi220 => (simp only [gA, gB, gC]; rfl)
             case hQ220 => exact fun _ _ _ h => h
             case hw220 => rfl
             case hy220 => (intro w hSw; (try dsimp only at hSw); go_simp; try with_reducible rfl)
             (try simp only [Act.put, sA, sB, sC])
             refine wpAnyH_ready (rs := [15]) (by kernel_rfl) (by simp) ?_
             refine AllReadyH.cons (o := ?o221) ?ho221 (fun K hK => ?st221) AllReadyH.nil
             case ho221 => (simp only [gA, gB, gC]; rfl)
             go_simp
             have hPre := hHeld; have y_B := And.intro hHeld.1.aw.glt (Nat.ne_of_lt hHeld.1.lt5); (try simp only [World.size_alloc] at y_B); have B9 := Lib.hid y_B; clear y_B
             refine hK.out _ _ ?_ (fun hHeld => ?_)
             · (try dsimp only); exact HALL.out _ (hHeld.1.below (alloc1 _ _))
             clear hK K
             (try simp only [Act.put, sA, sB, sC])
             refine wpAnyH_ready (rs := [16]) (by kernel_rfl) (by simp) ?_
             refine AllReadyH.cons (o := ?o222) ?ho222 (fun K hK => ?st222) AllReadyH.nil
             case ho222 => (simp only [gA, gB, gC]; rfl)
             go_simp
             refine hK.out _ _ ?_ (fun hHeld => ?_)
             · (try dsimp only); exact HALL.out _ (hPre.1.below (alloc1 _ _))
             clear hK K
             (try simp only [Act.put, sA, sB, sC])
             refine wpAnyH_take (i := 17) (oi := ?oi223) (v := ?v223) ?hi223 (by kernel_rfl) (by kernel_rfl) (by kernel_rfl) ?hQ223 (Or.inl ⟨?hw223, ?hy223⟩) (by assumption) ?rest223
             case hi223 => (simp only [gA, gB, gC]; rfl)
             case hQ223 => exact fun _ _ _ h => h
             case hw223 => rfl
             case hy223 => (intro w hSw; (try dsimp only at hSw); go_simp; try with_reducible rfl)
             (try simp only [Act.put, sA, sB, sC])
             refine wpAnyH_done (by kernel_rfl) ?_ _
             go_wp2_with fail
             go_meet
             exact ⟨_, rfl, rfl, hHeld.1, Bx.new _ (vTruth false)⟩
            ·
             go_simp
             have hPre := hHeld; have y_B := And.intro hHeld.1.aw.glt (Nat.ne_of_lt hHeld.1.lt5); (try simp only [World.size_alloc] at y_B); have B9 := Lib.hid y_B; clear y_B
             refine hK.out _ _ ?_ (fun hHeld => ?_)
             · (try dsimp only); exact HALL.out _ (hHeld.1.below (alloc1 _ _))
             clear hK K
             (try simp only [Act.put, sA, sB, sC])
             have y_V9 := vb_at hHeld.1
             (try simp only [World.size_alloc] at y_V9)
             have V9 := Lib.hid y_V9
             clear y_V9
             have y_F9 := F9.out.below (bel_at hHeld.1)
             clear F9
             have F9 := Lib.hid y_F9
             clear y_F9
             refine wpAnyH_ready (rs := [11]) (by kernel_rfl) (by simp) ?_
             refine AllReadyH.cons (o := ?o224) ?ho224 (fun K hK => ?st224) AllReadyH.nil
             case ho224 => (simp only [gA, gB, gC]; rfl)
             go_simp
             refine (eval_at F9.out (fdk_none _) (vlk_none _) (ok_two (in64_lit (by decide) (by decide)) (ok_con (ok_truth false)) (ok_two (in64_lit (by decide) (by decide)) (ok_two (in64_lit (by decide) (by decide)) (ok_con (ok_int (in64_lit (by decide) (by decide)))) (ok_con (ok_int (in64_lit (by decide) (by decide))))) (ok_con (ok_int (in64_lit (by decide) (by decide)))))) (fun v hv => by cases hv) aw_3).mono ?_; rintro e w9 ⟨rfl, h9⟩; clear F9; have y_V9 := V9.out.below (h9); clear V9; have V9 := Lib.hid y_V9; clear y_V9
             refine hK.out _ _ ?_ (fun hHeld => ?_)
             · (try dsimp only); exact HALL.out _ (hHeld.1.below h9)
             clear hK K
             (try simp only [Act.put, sA, sB, sC])
             refine wpAnyH_take (i := 12) (oi := ?oi225) (v := ?v225) ?hi225 (by kernel_rfl) (by kernel_rfl) (by kernel_rfl) ?hQ225 (Or.inl ⟨?hw225, ?hy225⟩) (by assumption) ?rest225
             case hi225 => (simp only [gA, gB, gC]; rfl)
             case hQ225 => exact fun _ _ _ h => h
             case hw225 => rfl
             case hy225 => (intro w hSw; (try dsimp only at hSw); go_simp; try with_reducible rfl)
             (try simp only [Act.put, sA, sB, sC])
             refine wpAnyH_take (i := 13) (oi := ?oi226) (v := ?v226) ?hi226 (by kernel_rfl) (by kernel_rfl) (by kernel_rfl) ?hQ226 (Or.inl ⟨?hw226, ?hy226⟩) (by assumption) ?rest226
             case hi226 => (simp only [gA, gB, gC]; rfl)
             case hQ226 => exact fun _ _ _ h => h
             case hw226 => rfl
             case hy226 => (intro w hSw; (try dsimp only at hSw); go_simp; try with_reducible rfl)
             (try simp only [Act.put, sA, sB, sC])
             refine wpAnyH_take (i := 14) (oi := ?oi227) (v := ?v227) ?hi227 (by kernel_rfl) (by kernel_rfl) (by kernel_rfl) ?hQ227 (Or.inl ⟨?hw227, ?hy227⟩) (by assumption) ?rest227
             case hi227 => (simp only [gA, gB, gC]; rfl)
             case hQ227 => exact fun _ _ _ h => h
             case hw227 => rfl
             case hy227 => (intro w hSw; (try dsimp only at hSw); go_simp; try with_reducible rfl)
             (try simp only [Act.put, sA, sB, sC])
             obtain ⟨u0, u1, u2, u3, u4, e0, e1, e2, e3, e4, ef⟩ := V9.out.open
             refine wpAnyH_ready (rs := [16]) (by kernel_rfl) (by simp) ?_
             refine AllReadyH.cons (o := ?o228) ?ho228 (fun K hK => ?st228) AllReadyH.nil
             case ho228 => (simp only [gA, gB, gC]; rfl)
             go_simp
             refine hK.out _ _ ?_ (fun hHeld => ?_)
             · (try dsimp only); exact HALL.out _ (AwC.set5 hHeld.1 B9.out.1 HG.out.1 HG.out.2 B9.out.2 _ _ _ _ _)
             clear hK K
             (try simp only [Act.put, sA, sB, sC])
             refine wpAnyH_take (i := 17) (oi := ?oi229) (v := ?v229) ?hi229 (by kernel_rfl) (by kernel_rfl) (by kernel_rfl) ?hQ229 (Or.inl ⟨?hw229, ?hy229⟩) (by assumption) ?rest229
             case hi229 => (simp only [gA, gB, gC]; rfl)
             case hQ229 => exact fun _ _ _ h => h
             case hw229 => rfl
             case hy229 => (intro w hSw; (try dsimp only at hSw); go_simp; try with_reducible rfl)
             (try simp only [Act.put, sA, sB, sC])
             refine wpAnyH_done (by kernel_rfl) ?_ _
             go_wp2_with fail
             go_meet
             exact ⟨_, rfl, rfl, hHeld.1, bx_set (r := vTruth false) e0 e1 e2 e3 e4⟩
           ·
            go_simp
            have hPre := hHeld; have y_B := And.intro hHeld.1.aw.glt (Nat.ne_of_lt hHeld.1.lt5); (try simp only [World.size_alloc] at y_B); have B9 := Lib.hid y_B; clear y_B
            refine hK.out _ _ ?_ (fun hHeld => ?_)
            · (try dsimp only); exact HALL.out _ (hHeld.1.below (alloc1 _ _))
            clear hK K
            (try simp only [Act.put, sA, sB, sC])
            have y_V9 := vb_at hHeld.1
            (try simp only [World.size_alloc] at y_V9)
            have V9 := Lib.hid y_V9
            clear y_V9
            have y_F9 := F9.out.below (bel_at hHeld.1)
            clear F9
            have F9 := Lib.hid y_F9
            clear y_F9
            refine wpAnyH_ready (rs := [10]) (by kernel_rfl) (by simp) ?_
            refine AllReadyH.cons (o := ?o230) ?ho230 (fun K hK => ?st230) AllReadyH.nil
            case ho230 => (simp only [gA, gB, gC]; rfl)
            go_simp
            refine (on.out 10 _ _ _ _).mono ?_; rintro e w8 ⟨rfl, h8⟩; have y_F9 := F9.out.below (h8); clear F9; have F9 := Lib.hid y_F9; clear y_F9; have y_V9 := V9.out.below (h8); clear V9; have V9 := Lib.hid y_V9; clear y_V9
            refine hK.out _ _ ?_ (fun hHeld => ?_)
            · (try dsimp only); exact HALL.out _ (hHeld.1.below h8)
            clear hK K
            (try simp only [Act.put, sA, sB, sC])
            refine wpAnyH_ready (rs := [11]) (by kernel_rfl) (by simp) ?_
            refine AllReadyH.cons (o := ?o231) ?ho231 (fun K hK => ?st231) AllReadyH.nil
            case ho231 => (simp only [gA, gB, gC]; rfl)
            go_simp
            refine (eval_at F9.out (fdk_none _) (vlk_none _) (ok_two (in64_lit (by decide) (by decide)) (ok_con (ok_truth false)) (ok_two (in64_lit (by decide) (by decide)) (ok_two (in64_lit (by decide) (by decide)) (ok_con (ok_int (in64_lit (by decide) (by decide)))) (ok_con (ok_int (in64_lit (by decide) (by decide))))) (ok_con (ok_int (in64_lit (by decide) (by decide)))))) (fun v hv => by cases hv) aw_3).mono ?_; rintro e w9 ⟨rfl, h9⟩; clear F9; have y_V9 := V9.out.below (h9); clear V9; have V9 := Lib.hid y_V9; clear y_V9
            refine hK.out _ _ ?_ (fun hHeld => ?_)
            · (try dsimp only); exact HALL.out _ (hHeld.1.below h9)
            clear hK K
            (try simp only [Act.put, sA, sB, sC])
            refine wpAnyH_take (i := 12) (oi := ?oi232) (v := ?v232) ?hi232 (by kernel_rfl) (by kernel_rfl) (by kernel_rfl) ?hQ232 (Or.inl ⟨?hw232, ?hy232⟩) (by assumption) ?rest232
            case hi232 => (simp only [gA, gB, gC]; rfl)
            case hQ232 => exact fun _ _ _ h => h
            case hw232 => rfl
            case hy232 => (intro w hSw; (try dsimp only at hSw); go_simp; try with_reducible rfl)
            (try simp only [Act.put, sA, sB, sC])
            refine wpAnyH_take (i := 13) (oi := ?oi233) (v := ?v233) ?hi233 (by kernel_rfl) (by kernel_rfl) (by kernel_rfl) ?hQ233 (Or.inl ⟨?hw233, ?hy233⟩) (by assumption) ?rest233
            case hi233 => (simp only [gA, gB, gC]; rfl)
            case hQ233 => exact fun _ _ _ h => h
            case hw233 => rfl
            case hy233 => (intro w hSw; (try dsimp only at hSw); go_simp; try with_reducible rfl)
            (try simp only [Act.put, sA, sB, sC])
            refine wpAnyH_take (i := 14) (oi := ?oi234) (v := ?v234) ?hi234 (by kernel_rfl) (by kernel_rfl) (by kernel_rfl) ?hQ234 (Or.inl ⟨?hw234, ?hy234⟩) (by assumption) ?rest234
            case hi234 => (simp only [gA, gB, gC]; rfl)
            case hQ234 => exact fun _ _ _ h => h
            case hw234 => rfl
            case hy234 => (intro w hSw; (try dsimp only at hSw); go_simp; try with_reducible rfl)
            (try simp only [Act.put, sA, sB, sC])
            obtain ⟨u0, u1, u2, u3, u4, e0, e1, e2, e3, e4, ef⟩ := V9.out.open
            refine wpAnyH_ready (rs := [16]) (by kernel_rfl) (by simp) ?_
            refine AllReadyH.cons (o := ?o235) ?ho235 (fun K hK => ?st235) AllReadyH.nil
            case ho235 => (simp only [gA, gB, gC]; rfl)
            go_simp
            refine hK.out _ _ ?_ (fun hHeld => ?_)
            · (try dsimp only); exact HALL.out _ (AwC.set5 hHeld.1 B9.out.1 HG.out.1 HG.out.2 B9.out.2 _ _ _ _ _)
            clear hK K
            (try simp only [Act.put, sA, sB, sC])
            refine wpAnyH_take (i := 17) (oi := ?oi236) (v := ?v236) ?hi236 (by kernel_rfl) (by kernel_rfl) (by kernel_rfl) ?hQ236 (Or.inl ⟨?hw236, ?hy236⟩) (by assumption) ?rest236
            case hi236 => (simp only [gA, gB, gC]; rfl)
            case hQ236 => exact fun _ _ _ h => h
            case hw236 => rfl
            case hy236 => (intro w hSw; (try dsimp only at hSw); go_simp; try with_reducible rfl)
            (try simp only [Act.put, sA, sB, sC])
            refine wpAnyH_done (by kernel_rfl) ?_ _
            go_wp2_with fail
            go_meet
            exact ⟨_, rfl, rfl, hHeld.1, bx_set (r := vTruth false) e0 e1 e2 e3 e4⟩
          ·
           go_simp
           have hPre := hHeld; have y_B := And.intro hHeld.1.aw.glt (Nat.ne_of_lt hHeld.1.lt5); (try simp only [World.size_alloc] at y_B); have B9 := Lib.hid y_B; clear y_B
           refine hK.out _ _ ?_ (fun hHeld => ?_)
           · (try dsimp only); exact HALL.out _ (hHeld.1.below (alloc1 _ _))
           clear hK K
           (try simp only [Act.put, sA, sB, sC])
           have y_V9 := vb_at hHeld.1
           (try simp only [World.size_alloc] at y_V9)
           have V9 := Lib.hid y_V9
           clear y_V9
           have y_F7 := F7.out.below (bel_at hHeld.1)
           clear F7
           have F7 := Lib.hid y_F7
           clear y_F7
           refine wpAnyH_ready (rs := [9]) (by kernel_rfl) (by simp) ?_
           refine AllReadyH.cons (o := ?o237) ?ho237 (fun K hK => ?st237) AllReadyH.nil
           case ho237 => (simp only [gA, gB, gC]; rfl)
           go_simp
           refine hK.out _ _ ?_ (fun hHeld => ?_)
           · (try dsimp only); exact HALL.out _ (hHeld.1.below (alloc1 _ _))
           clear hK K
           (try simp only [Act.put, sA, sB, sC])
           have y_F9 := two_at (conX (vTruth false)) nought 10 hHeld.1 (ExE.leaf _ (conX (vTruth false)) rfl) F7.out
           (try simp only [World.size_alloc] at y_F9)
           clear F7
           have F9 := Lib.hid y_F9
           clear y_F9
           have y_V9 := V9.out.below (bel_at hHeld.1)
           clear V9
           have V9 := Lib.hid y_V9
           clear y_V9
           refine wpAnyH_ready (rs := [10]) (by kernel_rfl) (by simp) ?_
           refine AllReadyH.cons (o := ?o238) ?ho238 (fun K hK => ?st238) AllReadyH.nil
           case ho238 => (simp only [gA, gB, gC]; rfl)
           go_simp
           refine (on.out 10 _ _ _ _).mono ?_; rintro e w8 ⟨rfl, h8⟩; have y_V9 := V9.out.below (h8); clear V9; have V9 := Lib.hid y_V9; clear y_V9; have y_F9 := F9.out.below (h8); clear F9; have F9 := Lib.hid y_F9; clear y_F9
           refine hK.out _ _ ?_ (fun hHeld => ?_)
           · (try dsimp only); exact HALL.out _ (hHeld.1.below h8)
           clear hK K
           (try simp only [Act.put, sA, sB, sC])
           refine wpAnyH_ready (rs := [11]) (by kernel_rfl) (by simp) ?_
           refine AllReadyH.cons (o := ?o239) ?ho239 (fun K hK => ?st239) AllReadyH.nil
           case ho239 => (simp only [gA, gB, gC]; rfl)
           go_simp
           refine (eval_at F9.out (fdk_none _) (vlk_none _) (ok_two (in64_lit (by decide) (by decide)) (ok_con (ok_truth false)) (ok_two (in64_lit (by decide) (by decide)) (ok_two (in64_lit (by decide) (by decide)) (ok_con (ok_int (in64_lit (by decide) (by decide)))) (ok_con (ok_int (in64_lit (by decide) (by decide))))) (ok_con (ok_int (in64_lit (by decide) (by decide)))))) (fun v hv => by cases hv) aw_3).mono ?_; rintro e w9 ⟨rfl, h9⟩; clear F9; have y_V9 := V9.out.below (h9); clear V9; have V9 := Lib.hid y_V9; clear y_V9
           refine hK.out _ _ ?_ (fun hHeld => ?_)
           · (try dsimp only); exact HALL.out _ (hHeld.1.below h9)
           clear hK K
           (try simp only [Act.put, sA, sB, sC])
           refine wpAnyH_take (i := 12) (oi := ?oi240) (v := ?v240) ?hi240 (by kernel_rfl) (by kernel_rfl) (by kernel_rfl) ?hQ240 (Or.inl ⟨?hw240, ?hy240⟩) (by assumption) ?rest240
           case hi240 => (simp only [gA, gB, gC]; rfl)
           case hQ240 => exact fun _ _ _ h => h
           case hw240 => rfl
           case hy240 => (intro w hSw; (try dsimp only at hSw); go_simp; try with_reducible rfl)
           (try simp only [Act.put, sA, sB, sC])
           refine wpAnyH_take (i := 13) (oi := ?oi241) (v := ?v241) ?hi241 (by kernel_rfl) (by kernel_rfl) (by kernel_rfl) ?hQ241 (Or.inl ⟨?hw241, ?hy241⟩) (by assumption) ?rest241
           case hi241 => (simp only [gA, gB, gC]; rfl)
           case hQ241 => exact fun _ _ _ h => h
           case hw241 => rfl
           case hy241 => (intro w hSw; (try dsimp only at hSw); go_simp; try with_reducible rfl)
           (try simp only [Act.put, sA, sB, sC])
           refine wpAnyH_take (i := 14) (oi := ?oi242) (v := ?v242) ?hi242 (by kernel_rfl) (by kernel_rfl) (by kernel_rfl) ?hQ242 (Or.inl ⟨?hw242, ?hy242⟩) (by assumption) ?rest242
           case hi242 => (simp only [gA, gB, gC]; rfl)
           case hQ242 => exact fun _ _ _ h => h
           case hw242 => rfl
           case hy242 => (intro w hSw; (try dsimp only at hSw); go_simp; try with_reducible rfl)
           (try simp only [Act.put, sA, sB, sC])
           obtain ⟨u0, u1, u2, u3, u4, e0, e1, e2, e3, e4, ef⟩ := V9.out.open
           refine wpAnyH_ready (rs := [16]) (by kernel_rfl) (by simp) ?_
           refine AllReadyH.cons (o := ?o243) ?ho243 (fun K hK => ?st243) AllReadyH.nil
           case ho243 => (simp only [gA, gB, gC]; rfl)
           go_simp
           refine hK.out _ _ ?_ (fun hHeld => ?_)
           · (try dsimp only); exact HALL.out _ (AwC.set5 hHeld.1 B9.out.1 HG.out.1 HG.out.2 B9.out.2 _ _ _ _ _)
           clear hK K
           (try simp only [Act.put, sA, sB, sC])
           refine wpAnyH_take (i := 17) (oi := ?oi244) (v := ?v244) ?hi244 (by kernel_rfl) (by kernel_rfl) (by kernel_rfl) ?hQ244 (Or.inl ⟨?hw244, ?hy244⟩) (by assumption) ?rest244
           case hi244 => (simp only [gA, gB, gC]; rfl)
           case hQ244 => exact fun _ _ _ h => h
           case hw244 => rfl
           case hy244 => (intro w hSw; (try dsimp only at hSw); go_simp; try with_reducible rfl)
           (try simp only [Act.put, sA, sB, sC])
           refine wpAnyH_done (by kernel_rfl) ?_ _
           go_wp2_with fail
           go_meet
           exact ⟨_, rfl, rfl, hHeld.1, bx_set (r := vTruth false) e0 e1 e2 e3 e4⟩
         ·
          go_simp
          have hPre := hHeld; have y_B := And.intro hHeld.1.aw.glt (Nat.ne_of_lt hHeld.1.lt5); (try simp only [World.size_alloc] at y_B); have B9 := Lib.hid y_B; clear y_B
          refine hK.out _ _ ?_ (fun hHeld => ?_)
          · (try dsimp only); exact HALL.out _ (hHeld.1.below (alloc1 _ _))
          clear hK K
          (try simp only [Act.put, sA, sB, sC])
          have y_V9 := vb_at hHeld.1
          (try simp only [World.size_alloc] at y_V9)
          have V9 := Lib.hid y_V9
          clear y_V9
          have y_F7 := F7.out.below (bel_at hHeld.1)
          clear F7
          have F7 := Lib.hid y_F7
          clear y_F7
          refine wpAnyH_ready (rs := [8]) (by kernel_rfl) (by simp) ?_
          refine AllReadyH.cons (o := ?o245) ?ho245 (fun K hK => ?st245) AllReadyH.nil
          case ho245 => (simp only [gA, gB, gC]; rfl)
          go_simp
          refine (on.out 8 _ _ _ _).mono ?_; rintro e w6 ⟨rfl, h6⟩; have y_F7 := F7.out.below (h6); clear F7; have F7 := Lib.hid y_F7; clear y_F7; have y_V9 := V9.out.below (h6); clear V9; have V9 := Lib.hid y_V9; clear y_V9
          refine hK.out _ _ ?_ (fun hHeld => ?_)
          · (try dsimp only); exact HALL.out _ (hHeld.1.below h6)
          clear hK K
          (try simp only [Act.put, sA, sB, sC])
          refine wpAnyH_ready (rs := [9]) (by kernel_rfl) (by simp) ?_
          refine AllReadyH.cons (o := ?o246) ?ho246 (fun K hK => ?st246) AllReadyH.nil
          case ho246 => (simp only [gA, gB, gC]; rfl)
          go_simp
          refine hK.out _ _ ?_ (fun hHeld => ?_)
          · (try dsimp only); exact HALL.out _ (hHeld.1.below (alloc1 _ _))
          clear hK K
          (try simp only [Act.put, sA, sB, sC])
          have y_F9 := two_at (conX (vTruth false)) nought 10 hHeld.1 (ExE.leaf _ (conX (vTruth false)) rfl) F7.out
          (try simp only [World.size_alloc] at y_F9)
          clear F7
          have F9 := Lib.hid y_F9
          clear y_F9
          have y_V9 := V9.out.below (bel_at hHeld.1)
          clear V9
          have V9 := Lib.hid y_V9
          clear y_V9
          refine wpAnyH_ready (rs := [10]) (by kernel_rfl) (by simp) ?_
          refine AllReadyH.cons (o := ?o247) ?ho247 (fun K hK => ?st247) AllReadyH.nil
          case ho247 => (simp only [gA, gB, gC]; rfl)
          go_simp
          refine (on.out 10 _ _ _ _).mono ?_; rintro e w8 ⟨rfl, h8⟩; have y_V9 := V9.out.below (h8); clear V9; have V9 := Lib.hid y_V9; clear y_V9; have y_F9 := F9.out.below (h8); clear F9; have F9 := Lib.hid y_F9; clear y_F9
          refine hK.out _ _ ?_ (fun hHeld => ?_)
          · (try dsimp only); exact HALL.out _ (hHeld.1.below h8)
          clear hK K
          (try simp only [Act.put, sA, sB, sC])
          refine wpAnyH_ready (rs := [11]) (by kernel_rfl) (by simp) ?_
          refine AllReadyH.cons (o := ?o248) ?ho248 (fun K hK => ?st248) AllReadyH.nil
          case ho248 => (simp only [gA, gB, gC]; rfl)
          go_simp
          refine (eval_at F9.out (fdk_none _) (vlk_none _) (ok_two (in64_lit (by decide) (by decide)) (ok_con (ok_truth false)) (ok_two (in64_lit (by decide) (by decide)) (ok_two (in64_lit (by decide) (by decide)) (ok_con (ok_int (in64_lit (by decide) (by decide)))) (ok_con (ok_int (in64_lit (by decide) (by decide))))) (ok_con (ok_int (in64_lit (by decide) (by decide)))))) (fun v hv => by cases hv) aw_3).mono ?_; rintro e w9 ⟨rfl, h9⟩; clear F9; have y_V9 := V9.out.below (h9); clear V9; have V9 := Lib.hid y_V9; clear y_V9
          refine hK.out _ _ ?_ (fun hHeld => ?_)
          · (try dsimp only); exact HALL.out _ (hHeld.1.below h9)
          clear hK K
          (try simp only [Act.put, sA, sB, sC])
          refine wpAnyH_take (i := 12) (oi := ?oi249) (v := ?v249) ?hi249 (by kernel_rfl) (by kernel_rfl) (by kernel_rfl) ?hQ249 (Or.inl ⟨?hw249, ?hy249⟩) (by assumption) ?rest249
          case hi249 => (simp only [gA, gB, gC]; rfl)
          case hQ249 => exact fun _ _ _ h => h
          case hw249 => rfl
          case hy249 => (intro w hSw; (try dsimp only at hSw); go_simp; try with_reducible rfl)
          (try simp only [Act.put, sA, sB, sC])
          refine wpAnyH_take (i := 13) (oi := ?oi250) (v := ?v250) ?hi250 (by kernel_rfl) (by kernel_rfl) (by kernel_rfl) ?hQ250 (Or.inl ⟨?hw250, ?hy250⟩) (by assumption) ?rest250
          case hi250 => (simp only [gA, gB, gC]; rfl)
          case hQ250 => exact fun _ _ _ h => h
          case hw250 => rfl
          case hy250 => (intro w hSw; (try dsimp only at hSw); go_simp; try with_reducible rfl)
          (try simp only [Act.put, sA, sB, sC])
          refine wpAnyH_take (i := 14) (oi := ?oi251) (v := ?v251) ?hi251 (by kernel_rfl) (by kernel_rfl) (by kernel_rfl) ?hQ251 (Or.inl ⟨?hw251, ?hy251⟩) (by assumption) ?rest251
          case hi251 => (simp only [gA, gB, gC]; rfl)
          case hQ251 => exact fun _ _ _ h => h
          case hw251 => rfl
          case hy251 => (intro w hSw; (try dsimp only at hSw); go_simp; try with_reducible rfl)
          (try simp only [Act.put, sA, sB, sC])
          obtain ⟨u0, u1, u2, u3, u4, e0, e1, e2, e3, e4, ef⟩ := V9.out.open
          refine wpAnyH_ready (rs := [16]) (by kernel_rfl) (by simp) ?_
          refine AllReadyH.cons (o := ?o252) ?ho252 (fun K hK => ?st252) AllReadyH.nil
          case ho252 => (simp only [gA, gB, gC]; rfl)
          go_simp
          refine hK.out _ _ ?_ (fun hHeld => ?_)
          · (try dsimp only); exact HALL.out _ (AwC.set5 hHeld.1 B9.out.1 HG.out.1 HG.out.2 B9.out.2 _ _ _ _ _)
          clear hK K
          (try simp only [Act.put, sA, sB, sC])
          refine wpAnyH_take (i := 17) (oi := ?oi253) (v := ?v253) ?hi253 (by kernel_rfl) (by kernel_rfl) (by kernel_rfl) ?hQ253 (Or.inl ⟨?hw253, ?hy253⟩) (by assumption) ?rest253
          case hi253 => (simp only [gA, gB, gC]; rfl)
          case hQ253 => exact fun _ _ _ h => h
          case hw253 => rfl
          case hy253 => (intro w hSw; (try dsimp only at hSw); go_simp; try with_reducible rfl)
          (try simp only [Act.put, sA, sB, sC])
          refine wpAnyH_done (by kernel_rfl) ?_ _
          go_wp2_with fail
          go_meet
          exact ⟨_, rfl, rfl, hHeld.1, bx_set (r := vTruth false) e0 e1 e2 e3 e4⟩
        ·
         go_simp
         have hPre := hHeld; have y_B := And.intro hHeld.1.aw.glt (Nat.ne_of_lt hHeld.1.lt5); (try simp only [World.size_alloc] at y_B); have B9 := Lib.hid y_B; clear y_B
         refine hK.out _ _ ?_ (fun hHeld => ?_)
         · (try dsimp only); exact HALL.out _ (hHeld.1.below (alloc1 _ _))
         clear hK K
         (try simp only [Act.put, sA, sB, sC])
         have y_V9 := vb_at hHeld.1
         (try simp only [World.size_alloc] at y_V9)
         have V9 := Lib.hid y_V9
         clear y_V9
         have y_F4 := F4.out.below (bel_at hHeld.1)
         clear F4
         have F4 := Lib.hid y_F4
         clear y_F4
         refine wpAnyH_ready (rs := [7]) (by kernel_rfl) (by simp) ?_
         refine AllReadyH.cons (o := ?o254) ?ho254 (fun K hK => ?st254) AllReadyH.nil
         case ho254 => (simp only [gA, gB, gC]; rfl)
         go_simp
         refine hK.out _ _ ?_ (fun hHeld => ?_)
         · (try dsimp only); exact HALL.out _ (hHeld.1.below (alloc1 _ _))
         clear hK K
         (try simp only [Act.put, sA, sB, sC])
         have y_F7 := two_at (opX 7 [conX (vInt 1), conX (vInt 0)]) (conX (vInt 1)) 8 hHeld.1 F4.out (ExE.leaf _ (conX (vInt 1)) rfl)
         (try simp only [World.size_alloc] at y_F7)
         clear F4
         have F7 := Lib.hid y_F7
         clear y_F7
         have y_V9 := V9.out.below (bel_at hHeld.1)
         clear V9
         have V9 := Lib.hid y_V9
         clear y_V9
         refine wpAnyH_ready (rs := [8]) (by kernel_rfl) (by simp) ?_
         refine AllReadyH.cons (o := ?o255) ?ho255 (fun K hK => ?st255) AllReadyH.nil
         case ho255 => (simp only [gA, gB, gC]; rfl)
         go_simp
         refine (on.out 8 _ _ _ _).mono ?_; rintro e w6 ⟨rfl, h6⟩; have y_V9 := V9.out.below (h6); clear V9; have V9 := Lib.hid y_V9; clear y_V9; have y_F7 := F7.out.below (h6); clear F7; have F7 := Lib.hid y_F7; clear y_F7
         refine hK.out _ _ ?_ (fun hHeld => ?_)
         · (try dsimp only); exact HALL.out _ (hHeld.1.below h6)
         clear hK K
         (try simp only [Act.put, sA, sB, sC])
         refine wpAnyH_ready (rs := [9]) (by kernel_rfl) (by simp) ?_
         refine AllReadyH.cons (o := ?o256) ?ho256 (fun K hK => ?st256) AllReadyH.nil
         case ho256 => (simp only [gA, gB, gC]; rfl)
         go_simp
         refine hK.out _ _ ?_ (fun hHeld => ?_)
         · (try dsimp only); exact HALL.out _ (hHeld.1.below (alloc1 _ _))
         clear hK K
         (try simp only [Act.put, sA, sB, sC])
         have y_F9 := two_at (conX (vTruth false)) nought 10 hHeld.1 (ExE.leaf _ (conX (vTruth false)) rfl) F7.out
         (try simp only [World.size_alloc] at y_F9)
         clear F7
         have F9 := Lib.hid y_F9
         clear y_F9
         have y_V9 := V9.out.below (bel_at hHeld.1)
         clear V9
         have V9 := Lib.hid y_V9
         clear y_V9
         refine wpAnyH_ready (rs := [10]) (by kernel_rfl) (by simp) ?_
         refine AllReadyH.cons (o := ?o257) ?ho257 (fun K hK => ?st257) AllReadyH.nil
         case ho257 => (simp only [gA, gB, gC]; rfl)
         go_simp
         refine (on.out 10 _ _ _ _).mono ?_; rintro e w8 ⟨rfl, h8⟩; have y_V9 := V9.out.below (h8); clear V9; have V9 := Lib.hid y_V9; clear y_V9; have y_F9 := F9.out.below (h8); clear F9; have F9 := Lib.hid y_F9; clear y_F9
         refine hK.out _ _ ?_ (fun hHeld => ?_)
         · (try dsimp only); exact HALL.out _ (hHeld.1.below h8)
         clear hK K
         (try simp only [Act.put, sA, sB, sC])
         refine wpAnyH_ready (rs := [11]) (by kernel_rfl) (by simp) ?_
         refine AllReadyH.cons (o := ?o258) ?ho258 (fun K hK => ?st258) AllReadyH.nil
         case ho258 => (simp only [gA, gB, gC]; rfl)
         go_simp
         refine (eval_at F9.out (fdk_none _) (vlk_none _) (ok_two (in64_lit (by decide) (by decide)) (ok_con (ok_truth false)) (ok_two (in64_lit (by decide) (by decide)) (ok_two (in64_lit (by decide) (by decide)) (ok_con (ok_int (in64_lit (by decide) (by decide)))) (ok_con (ok_int (in64_lit (by decide) (by decide))))) (ok_con (ok_int (in64_lit (by decide) (by decide)))))) (fun v hv => by cases hv) aw_3).mono ?_; rintro e w9 ⟨rfl, h9⟩; clear F9; have y_V9 := V9.out.below (h9); clear V9; have V9 := Lib.hid y_V9; clear y_V9
         refine hK.out _ _ ?_ (fun hHeld => ?_)
         · (try dsimp only); exact HALL.out _ (hHeld.1.below h9)
         clear hK K
         (try simp only [Act.put, sA, sB, sC])
         refine wpAnyH_take (i := 12) (oi := ?oi259) (v := ?v259) ?hi259 (by kernel_rfl) (by kernel_rfl) (by kernel_rfl) ?hQ259 (Or.inl ⟨?hw259, ?hy259⟩) (by assumption) ?rest259
         case hi259 => (simp only [gA, gB, gC]; rfl)
         case hQ259 => exact fun _ _ _ h => h
         case hw259 => rfl
         case hy259 => (intro w hSw; (try dsimp only at hSw); go_simp; try with_reducible rfl)
         (try simp only [Act.put, sA, sB, sC])
         refine wpAnyH_take (i := 13) (oi := ?oi260) (v := ?v260) ?hi260 (by kernel_rfl) (by kernel_rfl) (by kernel_rfl) ?hQ260 (Or.inl ⟨?hw260, ?hy260⟩) (by assumption) ?rest260
         case hi260 => (simp only [gA, gB, gC]; rfl)
         case hQ260 => exact fun _ _ _ h => h
         case hw260 => rfl
         case hy260 => (intro w hSw; (try dsimp only at hSw); go_simp; try with_reducible rfl)
         (try simp only [Act.put, sA, sB, sC])
         refine wpAnyH_take (i := 14) (oi := ?oi261) (v := ?v261) ?hi261 (by kernel_rfl) (by kernel_rfl) (by kernel_rfl) ?hQ261 (Or.inl ⟨?hw261, ?hy261⟩) (by assumption) ?rest261
         case hi261 => (simp only [gA, gB, gC]; rfl)
         case hQ261 => exact fun _ _ _ h => h
         case hw261 => rfl
         case hy261 => (intro w hSw; (try dsimp only at hSw); go_simp; try with_reducible rfl)
         (try simp only [Act.put, sA, sB, sC])
         obtain ⟨u0, u1, u2, u3, u4, e0, e1, e2, e3, e4, ef⟩ := V9.out.open
         refine wpAnyH_ready (rs := [16]) (by kernel_rfl) (by simp) ?_
         refine AllReadyH.cons (o := ?o262) ?ho262 (fun K hK => ?st262) AllReadyH.nil
         case ho262 => (simp only [gA, gB, gC]; rfl)
         go_simp
         refine hK.out _ _ ?_ (fun hHeld => ?_)
         · (try dsimp only); exact HALL.out _ (AwC.set5 hHeld.1 B9.out.1 HG.out.1 HG.out.2 B9.out.2 _ _ _ _ _)
         clear hK K
         (try simp only [Act.put, sA, sB, sC])
         refine wpAnyH_take (i := 17) (oi := ?oi263) (v := ?v263) ?hi263 (by kernel_rfl) (by kernel_rfl) (by kernel_rfl) ?hQ263 (Or.inl ⟨?hw263, ?hy263⟩) (by assumption) ?rest263
         case hi263 => (simp only [gA, gB, gC]; rfl)
         case hQ263 => exact fun _ _ _ h => h
         case hw263 => rfl
         case hy263 => (intro w hSw; (try dsimp only at hSw); go_simp; try with_reducible rfl)
         (try simp only [Act.put, sA, sB, sC])
         refine wpAnyH_done (by kernel_rfl) ?_ _
         go_wp2_with fail
         go_meet
         exact ⟨_, rfl, rfl, hHeld.1, bx_set (r := vTruth false) e0 e1 e2 e3 e4⟩
       ·
        go_simp
        have hPre := hHeld; have y_B := And.intro hHeld.1.aw.glt (Nat.ne_of_lt hHeld.1.lt5); (try simp only [World.size_alloc] at y_B); have B9 := Lib.hid y_B; clear y_B
        refine hK.out _ _ ?_ (fun hHeld => ?_)
        · (try dsimp only); exact HALL.out _ (hHeld.1.below (alloc1 _ _))
        clear hK K
        (try simp only [Act.put, sA, sB, sC])
        have y_V9 := vb_at hHeld.1
        (try simp only [World.size_alloc] at y_V9)
        have V9 := Lib.hid y_V9
        clear y_V9
        have y_F4 := F4.out.below (bel_at hHeld.1)
        clear F4
        have F4 := Lib.hid y_F4
        clear y_F4
        refine wpAnyH_ready (rs := [5]) (by kernel_rfl) (by simp) ?_
        refine AllReadyH.cons (o := ?o264) ?ho264 (fun K hK => ?st264) AllReadyH.nil
        case ho264 => (simp only [gA, gB, gC]; rfl)
        go_simp
        refine (on.out 7 _ _ _ _).mono ?_; rintro e w4 ⟨rfl, h4⟩; have y_F4 := F4.out.below (h4); clear F4; have F4 := Lib.hid y_F4; clear y_F4; have y_V9 := V9.out.below (h4); clear V9; have V9 := Lib.hid y_V9; clear y_V9
        refine hK.out _ _ ?_ (fun hHeld => ?_)
        · (try dsimp only); exact HALL.out _ (hHeld.1.below h4)
        clear hK K
        (try simp only [Act.put, sA, sB, sC])
        refine wpAnyH_ready (rs := [7]) (by kernel_rfl) (by simp) ?_
        refine AllReadyH.cons (o := ?o265) ?ho265 (fun K hK => ?st265) AllReadyH.nil
        case ho265 => (simp only [gA, gB, gC]; rfl)
        go_simp
        refine hK.out _ _ ?_ (fun hHeld => ?_)
        · (try dsimp only); exact HALL.out _ (hHeld.1.below (alloc1 _ _))
        clear hK K
        (try simp only [Act.put, sA, sB, sC])
        have y_F7 := two_at (opX 7 [conX (vInt 1), conX (vInt 0)]) (conX (vInt 1)) 8 hHeld.1 F4.out (ExE.leaf _ (conX (vInt 1)) rfl)
        (try simp only [World.size_alloc] at y_F7)
        clear F4
        have F7 := Lib.hid y_F7
        clear y_F7
        have y_V9 := V9.out.below (bel_at hHeld.1)
        clear V9
        have V9 := Lib.hid y_V9
        clear y_V9
        refine wpAnyH_ready (rs := [8]) (by kernel_rfl) (by simp) ?_
        refine AllReadyH.cons (o := ?o266) ?ho266 (fun K hK => ?st266) AllReadyH.nil
        case ho266 => (simp only [gA, gB, gC]; rfl)
        go_simp
        refine (on.out 8 _ _ _ _).mono ?_; rintro e w6 ⟨rfl, h6⟩; have y_V9 := V9.out.below (h6); clear V9; have V9 := Lib.hid y_V9; clear y_V9; have y_F7 := F7.out.below (h6); clear F7; have F7 := Lib.hid y_F7; clear y_F7
        refine hK.out _ _ ?_ (fun hHeld => ?_)
        · (try dsimp only); exact HALL.out _ (hHeld.1.below h6)
        clear hK K
        (try simp only [Act.put, sA, sB, sC])
        refine wpAnyH_ready (rs := [9]) (by kernel_rfl) (by simp) ?_
        refine AllReadyH.cons (o := ?o267) ?ho267 (fun K hK => ?st267) AllReadyH.nil
        case ho267 => (simp only [gA, gB, gC]; rfl)
        go_simp
        refine hK.out _ _ ?_ (fun hHeld => ?_)
        · (try dsimp only); exact HALL.out _ (hHeld.1.below (alloc1 _ _))
        clear hK K
        (try simp only [Act.put, sA, sB, sC])
        have y_F9 := two_at (conX (vTruth false)) nought 10 hHeld.1 (ExE.leaf _ (conX (vTruth false)) rfl) F7.out
        (try simp only [World.size_alloc] at y_F9)
        clear F7
        have F9 := Lib.hid y_F9
        clear y_F9
        have y_V9 := V9.out.below (bel_at hHeld.1)
        clear V9
        have V9 := Lib.hid y_V9
        clear y_V9
        refine wpAnyH_ready (rs := [10]) (by kernel_rfl) (by simp) ?_
        refine AllReadyH.cons (o := ?o268) ?ho268 (fun K hK => ?st268) AllReadyH.nil
        case ho268 => (simp only [gA, gB, gC]; rfl)
        go_simp
        refine (on.out 10 _ _ _ _).mono ?_; rintro e w8 ⟨rfl, h8⟩; have y_V9 := V9.out.below (h8); clear V9; have V9 := Lib.hid y_V9; clear y_V9; have y_F9 := F9.out.below (h8); clear F9; have F9 := Lib.hid y_F9; clear y_F9
        refine hK.out _ _ ?_ (fun hHeld => ?_)
        · (try dsimp only); exact HALL.out _ (hHeld.1.below h8)
        clear hK K
        (try simp only [Act.put, sA, sB, sC])
        refine wpAnyH_ready (rs := [11]) (by kernel_rfl) (by simp) ?_
        refine AllReadyH.cons (o := ?o269) ?ho269 (fun K hK => ?st269) AllReadyH.nil
        case ho269 => (simp only [gA, gB, gC]; rfl)
        go_simp
        refine (eval_at F9.out (fdk_none _) (vlk_none _) (ok_two (in64_lit (by decide) (by decide)) (ok_con (ok_truth false)) (ok_two (in64_lit (by decide) (by decide)) (ok_two (in64_lit (by decide) (by decide)) (ok_con (ok_int (in64_lit (by decide) (by decide)))) (ok_con (ok_int (in64_lit (by decide) (by decide))))) (ok_con (ok_int (in64_lit (by decide) (by decide)))))) (fun v hv => by cases hv) aw_3).mono ?_; rintro e w9 ⟨rfl, h9⟩; clear F9; have y_V9 := V9.out.below (h9); clear V9; have V9 := Lib.hid y_V9; clear y_V9
        refine hK.out _ _ ?_ (fun hHeld => ?_)
        · (try dsimp only); exact HALL.out _ (hHeld.1.below h9)
        clear hK K
        (try simp only [Act.put, sA, sB, sC])
        refine wpAnyH_take (i := 12) (oi := ?oi270) (v := ?v270) ?hi270 (by kernel_rfl) (by kernel_rfl) (by kernel_rfl) ?hQ270 (Or.inl ⟨?hw270, ?hy270⟩) (by assumption) ?rest270
        case hi270 => (simp only [gA, gB, gC]; rfl)
        case hQ270 => exact fun _ _ _ h => h
        case hw270 => rfl
        case hy270 => (intro w hSw; (try dsimp only at hSw); go_simp; try with_reducible rfl)
        (try simp only [Act.put, sA, sB, sC])
        refine wpAnyH_take (i := 13) (oi := ?oi271) (v := ?v271) ?hi271 (by kernel_rfl) (by kernel_rfl) (by kernel_rfl) ?hQ271 (Or.inl ⟨?hw271, ?hy271⟩) (by assumption) ?rest271
        case hi271 => (simp only [gA, gB, gC]; rfl)
        case hQ271 => exact fun _ _ _ h => h
        case hw271 => rfl
        case hy271 => (intro w hSw; (try dsimp only at hSw); go_simp; try with_reducible rfl)
        (try simp only [Act.put, sA, sB, sC])
        refine wpAnyH_take (i := 14) (oi := ?oi272) (v := ?v272) ?hi272 (by kernel_rfl) (by kernel_rfl) (by kernel_rfl) ?hQ272 (Or.inl ⟨?hw272, ?hy272⟩) (by assumption) ?rest272
        case hi272 => (simp only [gA, gB, gC]; rfl)
        case hQ272 => exact fun _ _ _ h => h
        case hw272 => rfl
        case hy272 => (intro w hSw; (try dsimp only at hSw); go_simp; try with_reducible rfl)
        (try simp only [Act.put, sA, sB, sC])
        obtain ⟨u0, u1, u2, u3, u4, e0, e1, e2, e3, e4, ef⟩ := V9.out.open
        refine wpAnyH_ready (rs := [16]) (by kernel_rfl) (by simp) ?_
        refine AllReadyH.cons (o := ?o273) ?ho273 (fun K hK => ?st273) AllReadyH.nil
        case ho273 => (simp only [gA, gB, gC]; rfl)
        go_simp
        refine hK.out _ _ ?_ (fun hHeld => ?_)
        · (try dsimp only); exact HALL.out _ (AwC.set5 hHeld.1 B9.out.1 HG.out.1 HG.out.2 B9.out.2 _ _ _ _ _)
        clear hK K
        (try simp only [Act.put, sA, sB, sC])
        refine wpAnyH_take (i := 17) (oi := ?oi274) (v := ?v274) ?hi274 (by kernel_rfl) (by kernel_rfl) (by kernel_rfl) ?hQ274 (Or.inl ⟨?hw274, ?hy274⟩) (by assumption) ?rest274
        case hi274 => (simp only [gA, gB, gC]; rfl)
        case hQ274 => exact fun _ _ _ h => h
        case hw274 => rfl
        case hy274 => (intro w hSw; (try dsimp only at hSw); go_simp; try with_reducible rfl)
        (try simp only [Act.put, sA, sB, sC])
        refine wpAnyH_done (by kernel_rfl) ?_ _
        go_wp2_with fail
        go_meet
        exact ⟨_, rfl, rfl, hHeld.1, bx_set (r := vTruth false) e0 e1 e2 e3 e4⟩
      ·
       go_simp
       have hPre := hHeld; have y_B := And.intro hHeld.1.aw.glt (Nat.ne_of_lt hHeld.1.lt5); (try simp only [World.size_alloc] at y_B); have B9 := Lib.hid y_B; clear y_B
       refine hK.out _ _ ?_ (fun hHeld => ?_)
       · (try dsimp only); exact HALL.out _ (hHeld.1.below (alloc1 _ _))
       clear hK K
       (try simp only [Act.put, sA, sB, sC])
       have y_V9 := vb_at hHeld.1
       (try simp only [World.size_alloc] at y_V9)
       have V9 := Lib.hid y_V9
       clear y_V9
       have y_F4 := F4.out.below (bel_at hHeld.1)
       clear F4
       have F4 := Lib.hid y_F4
       clear y_F4
       refine wpAnyH_ready (rs := [1]) (by kernel_rfl) (by simp) ?_
       refine AllReadyH.cons (o := ?o275) ?ho275 (fun K hK => ?st275) AllReadyH.nil
       case ho275 => (simp only [gA, gB, gC]; rfl)
       go_simp
       refine (cn.out (vTruth false) _).mono ?_; rintro e w3 ⟨rfl, h3⟩; have y_F4 := F4.out.below (h3); clear F4; have F4 := Lib.hid y_F4; clear y_F4; have y_V9 := V9.out.below (h3); clear V9; have V9 := Lib.hid y_V9; clear y_V9
       refine hK.out _ _ ?_ (fun hHeld => ?_)
       · (try dsimp only); exact HALL.out _ (hHeld.1.below h3)
       clear hK K
       (try simp only [Act.put, sA, sB, sC])
       refine wpAnyH_ready (rs := [5]) (by kernel_rfl) (by simp) ?_
       refine AllReadyH.cons (o := ?o276) ?ho276 (fun K hK => ?st276) AllReadyH.nil
       case ho276 => (simp only [gA, gB, gC]; rfl)
       go_simp
       refine (on.out 7 _ _ _ _).mono ?_; rintro e w4 ⟨rfl, h4⟩; have y_F4 := F4.out.below (h4); clear F4; have F4 := Lib.hid y_F4; clear y_F4; have y_V9 := V9.out.below (h4); clear V9; have V9 := Lib.hid y_V9; clear y_V9
       refine hK.out _ _ ?_ (fun hHeld => ?_)
       · (try dsimp only); exact HALL.out _ (hHeld.1.below h4)
       clear hK K
       (try simp only [Act.put, sA, sB, sC])
       refine wpAnyH_ready (rs := [7]) (by kernel_rfl) (by simp) ?_
       refine AllReadyH.cons (o := ?o277) ?ho277 (fun K hK => ?st277) AllReadyH.nil
       case ho277 => (simp only [gA, gB, gC]; rfl)
       go_simp
       refine hK.out _ _ ?_ (fun hHeld => ?_)
       · (try dsimp only); exact HALL.out _ (hHeld.1.below (alloc1 _ _))
       clear hK K
       (try simp only [Act.put, sA, sB, sC])
       have y_F7 := two_at (opX 7 [conX (vInt 1), conX (vInt 0)]) (conX (vInt 1)) 8 hHeld.1 F4.out (ExE.leaf _ (conX (vInt 1)) rfl)
       (try simp only [World.size_alloc] at y_F7)
       clear F4
       have F7 := Lib.hid y_F7
       clear y_F7
       have y_V9 := V9.out.below (bel_at hHeld.1)
       clear V9
       have V9 := Lib.hid y_V9
       clear y_V9
       refine wpAnyH_ready (rs := [8]) (by kernel_rfl) (by simp) ?_
       refine AllReadyH.cons (o := ?o278) ?ho278 (fun K hK => ?st278) AllReadyH.nil
       case ho278 => (simp only [gA, gB, gC]; rfl)
       go_simp
       refine (on.out 8 _ _ _ _).mono ?_; rintro e w6 ⟨rfl, h6⟩; have y_V9 := V9.out.below (h6); clear V9; have V9 := Lib.hid y_V9; clear y_V9; have y_F7 := F7.out.below (h6); clear F7; have F7 := Lib.hid y_F7; clear y_F7
       refine hK.out _ _ ?_ (fun hHeld => ?_)
       · (try dsimp only); exact HALL.out _ (hHeld.1.below h6)
       clear hK K
       (try simp only [Act.put, sA, sB, sC])
       refine wpAnyH_ready (rs := [9]) (by kernel_rfl) (by simp) ?_
       refine AllReadyH.cons (o := ?o279) ?ho279 (fun K hK => ?st279) AllReadyH.nil
       case ho279 => (simp only [gA, gB, gC]; rfl)
       go_simp
       refine hK.out _ _ ?_ (fun hHeld => ?_)
       · (try dsimp only); exact HALL.out _ (hHeld.1.below (alloc1 _ _))
       clear hK K
       (try simp only [Act.put, sA, sB, sC])
       have y_F9 := two_at (conX (vTruth false)) nought 10 hHeld.1 (ExE.leaf _ (conX (vTruth false)) rfl) F7.out
       (try simp only [World.size_alloc] at y_F9)
       clear F7
       have F9 := Lib.hid y_F9
       clear y_F9
       have y_V9 := V9.out.below (bel_at hHeld.1)
       clear V9
       have V9 := Lib.hid y_V9
       clear y_V9
       refine wpAnyH_ready (rs := [10]) (by kernel_rfl) (by simp) ?_
       refine AllReadyH.cons (o := ?o280) ?ho280 (fun K hK => ?st280) AllReadyH.nil
       case ho280 => (simp only [gA, gB, gC]; rfl)
       go_simp
       refine (on.out 10 _ _ _ _).mono ?_; rintro e w8 ⟨rfl, h8⟩; have y_V9 := V9.out.below (h8); clear V9; have V9 := Lib.hid y_V9; clear y_V9; have y_F9 := F9.out.below (h8); clear F9; have F9 := Lib.hid y_F9; clear y_F9
       refine hK.out _ _ ?_ (fun hHeld => ?_)
       · (try dsimp only); exact HALL.out _ (hHeld.1.below h8)
       clear hK K
       (try simp only [Act.put, sA, sB, sC])
       refine wpAnyH_ready (rs := [11]) (by kernel_rfl) (by simp) ?_
       refine AllReadyH.cons (o := ?o281) ?ho281 (fun K hK => ?st281) AllReadyH.nil
       case ho281 => (simp only [gA, gB, gC]; rfl)
       go_simp
       refine (eval_at F9.out (fdk_none _) (vlk_none _) (ok_two (in64_lit (by decide) (by decide)) (ok_con (ok_truth false)) (ok_two (in64_lit (by decide) (by decide)) (ok_two (in64_lit (by decide) (by decide)) (ok_con (ok_int (in64_lit (by decide) (by decide)))) (ok_con (ok_int (in64_lit (by decide) (by decide))))) (ok_con (ok_int (in64_lit (by decide) (by decide)))))) (fun v hv => by cases hv) aw_3).mono ?_; rintro e w9 ⟨rfl, h9⟩; clear F9; have y_V9 := V9.out.below (h9); clear V9; have V9 := Lib.hid y_V9; clear y_V9
       refine hK.out _ _ ?_ (fun hHeld => ?_)
       · (try dsimp only); exact HALL.out _ (hHeld.1.below h9)
       clear hK K
       (try simp only [Act.put, sA, sB, sC])
       refine wpAnyH_take (i := 12) (oi := ?oi282) (v := ?v282) ?hi282 (by kernel_rfl) (by kernel_rfl) (by kernel_rfl) ?hQ282 (Or.inl ⟨?hw282, ?hy282⟩) (by assumption) ?rest282
       case hi282 => (simp only [gA, gB, gC]; rfl)
       case hQ282 => exact fun _ _ _ h => h
       case hw282 => rfl
       case hy282 => (intro w hSw; (try dsimp only at hSw); go_simp; try with_reducible rfl)
       (try simp only [Act.put, sA, sB, sC])
       refine wpAnyH_take (i := 13) (oi := ?oi283) (v := ?v283) ?hi283 (by kernel_rfl) (by kernel_rfl) (by kernel_rfl) ?hQ283 (Or.inl ⟨?hw283, ?hy283⟩) (by assumption) ?rest283
       case hi283 => (simp only [gA, gB, gC]; rfl)
       case hQ283 => exact fun _ _ _ h => h
       case hw283 => rfl
       case hy283 => (intro w hSw; (try dsimp only at hSw); go_simp; try with_reducible rfl)
       (try simp only [Act.put, sA, sB, sC])
       refine wpAnyH_take (i := 14) (oi := ?oi284) (v := ?v284) ?hi284 (by kernel_rfl) (by kernel_rfl) (by kernel_rfl) ?hQ284 (Or.inl ⟨?hw284, ?hy284⟩) (by assumption) ?rest284
       case hi284 => (simp only [gA, gB, gC]; rfl)
       case hQ284 => exact fun _ _ _ h => h
       case hw284 => rfl
       case hy284 => (intro w hSw; (try dsimp only at hSw); go_simp; try with_reducible rfl)
       (try simp only [Act.put, sA, sB, sC])
       obtain ⟨u0, u1, u2, u3, u4, e0, e1, e2, e3, e4, ef⟩ := V9.out.open
       refine wpAnyH_ready (rs := [16]) (by kernel_rfl) (by simp) ?_
       refine AllReadyH.cons (o := ?o285) ?ho285 (fun K hK => ?st285) AllReadyH.nil
       case ho285 => (simp only [gA, gB, gC]; rfl)
       go_simp
       refine hK.out _ _ ?_ (fun hHeld => ?_)
       · (try dsimp only); exact HALL.out _ (AwC.set5 hHeld.1 B9.out.1 HG.out.1 HG.out.2 B9.out.2 _ _ _ _ _)
       clear hK K
       (try simp only [Act.put, sA, sB, sC])
       refine wpAnyH_take (i := 17) (oi := ?oi286) (v := ?v286) ?hi286 (by kernel_rfl) (by kernel_rfl) (by kernel_rfl) ?hQ286 (Or.inl ⟨?hw286, ?hy286⟩) (by assumption) ?rest286
       case hi286 => (simp only [gA, gB, gC]; rfl)
       case hQ286 => exact fun _ _ _ h => h
       case hw286 => rfl
       case hy286 => (intro w hSw; (try dsimp only at hSw); go_simp; try with_reducible rfl)
       (try simp only [Act.put, sA, sB, sC])
       refine wpAnyH_done (by kernel_rfl) ?_ _
       go_wp2_with fail
       go_meet
       exact ⟨_, rfl, rfl, hHeld.1, bx_set (r := vTruth false) e0 e1 e2 e3 e4⟩
     ·
      go_simp
      have hPre := hHeld; have y_B := And.intro hHeld.1.aw.glt (Nat.ne_of_lt hHeld.1.lt5); (try simp only [World.size_alloc] at y_B); have B9 := Lib.hid y_B; clear y_B
      refine hK.out _ _ ?_ (fun hHeld => ?_)
      · (try dsimp only); exact HALL.out _ (hHeld.1.below (alloc1 _ _))
      clear hK K
      (try simp only [Act.put, sA, sB, sC])
      have y_V9 := vb_at hHeld.1
      (try simp only [World.size_alloc] at y_V9)
      have V9 := Lib.hid y_V9
      clear y_V9
      have y_F4 := F4.out.below (bel_at hHeld.1)
      clear F4
      have F4 := Lib.hid y_F4
      clear y_F4
      refine wpAnyH_ready (rs := [0]) (by kernel_rfl) (by simp) ?_
      refine AllReadyH.cons (o := ?o287) ?ho287 (fun K hK => ?st287) AllReadyH.nil
      case ho287 => (simp only [gA, gB, gC]; rfl)
      go_simp
      refine (tf.out _).mono ?_; rintro e w2 ⟨rfl, h2⟩; have y_F4 := F4.out.below (h2); clear F4; have F4 := Lib.hid y_F4; clear y_F4; have y_V9 := V9.out.below (h2); clear V9; have V9 := Lib.hid y_V9; clear y_V9
      refine hK.out _ _ ?_ (fun hHeld => ?_)
      · (try dsimp only); exact HALL.out _ (hHeld.1.below h2)
      clear hK K
      (try simp only [Act.put, sA, sB, sC])
      refine wpAnyH_ready (rs := [1]) (by kernel_rfl) (by simp) ?_
      refine AllReadyH.cons (o := ?o288) ?ho288 (fun K hK => ?st288) AllReadyH.nil
      case ho288 => (simp only [gA, gB, gC]; rfl)
      go_simp
      refine (cn.out (vTruth false) _).mono ?_; rintro e w3 ⟨rfl, h3⟩; have y_F4 := F4.out.below (h3); clear F4; have F4 := Lib.hid y_F4; clear y_F4; have y_V9 := V9.out.below (h3); clear V9; have V9 := Lib.hid y_V9; clear y_V9
      refine hK.out _ _ ?_ (fun hHeld => ?_)
      · (try dsimp only); exact HALL.out _ (hHeld.1.below h3)
      clear hK K
      (try simp only [Act.put, sA, sB, sC])
      refine wpAnyH_ready (rs := [5]) (by kernel_rfl) (by simp) ?_
      refine AllReadyH.cons (o := ?o289) ?ho289 (fun K hK => ?st289) AllReadyH.nil
      case ho289 => (simp only [gA, gB, gC]; rfl)
      go_simp
      refine (on.out 7 _ _ _ _).mono ?_; rintro e w4 ⟨rfl, h4⟩; have y_F4 := F4.out.below (h4); clear F4; have F4 := Lib.hid y_F4; clear y_F4; have y_V9 := V9.out.below (h4); clear V9; have V9 := Lib.hid y_V9; clear y_V9
      refine hK.out _ _ ?_ (fun hHeld => ?_)
      · (try dsimp only); exact HALL.out _ (hHeld.1.below h4)
      clear hK K
      (try simp only [Act.put, sA, sB, sC])
      refine wpAnyH_ready (rs := [7]) (by kernel_rfl) (by simp) ?_
      refine AllReadyH.cons (o := ?o290) ?ho290 (fun K hK => ?st290) AllReadyH.nil
      case ho290 => (simp only [gA, gB, gC]; rfl)
      go_simp
      refine hK.out _ _ ?_ (fun hHeld => ?_)
      · (try dsimp only); exact HALL.out _ (hHeld.1.below (alloc1 _ _))
      clear hK K
      (try simp only [Act.put, sA, sB, sC])
      have y_F7 := two_at (opX 7 [conX (vInt 1), conX (vInt 0)]) (conX (vInt 1)) 8 hHeld.1 F4.out (ExE.leaf _ (conX (vInt 1)) rfl)
      (try simp only [World.size_alloc] at y_F7)
      clear F4
      have F7 := Lib.hid y_F7
      clear y_F7
      have y_V9 := V9.out.below (bel_at hHeld.1)
      clear V9
      have V9 := Lib.hid y_V9
      clear y_V9
      refine wpAnyH_ready (rs := [8]) (by kernel_rfl) (by simp) ?_
      refine AllReadyH.cons (o := ?o291) ?ho291 (fun K hK => ?st291) AllReadyH.nil
      case ho291 => (simp only [gA, gB, gC]; rfl)
      go_simp
      refine (on.out 8 _ _ _ _).mono ?_; rintro e w6 ⟨rfl, h6⟩; have y_V9 := V9.out.below (h6); clear V9; have V9 := Lib.hid y_V9; clear y_V9; have y_F7 := F7.out.below (h6); clear F7; have F7 := Lib.hid y_F7; clear y_F7
      refine hK.out _ _ ?_ (fun hHeld => ?_)
      · (try dsimp only); exact HALL.out _ (hHeld.1.below h6)
      clear hK K
      (try simp only [Act.put, sA, sB, sC])
      refine wpAnyH_ready (rs := [9]) (by kernel_rfl) (by simp) ?_
      refine AllReadyH.cons (o := ?o292) ?ho292 (fun K hK => ?st292) AllReadyH.nil
      case ho292 => (simp only [gA, gB, gC]; rfl)
      go_simp
      refine hK.out _ _ ?_ (fun hHeld => ?_)
      · (try dsimp only); exact HALL.out _ (hHeld.1.below (alloc1 _ _))
      clear hK K
      (try simp only [Act.put, sA, sB, sC])
      have y_F9 := two_at (conX (vTruth false)) nought 10 hHeld.1 (ExE.leaf _ (conX (vTruth false)) rfl) F7.out
      (try simp only [World.size_alloc] at y_F9)
      clear F7
      have F9 := Lib.hid y_F9
      clear y_F9
      have y_V9 := V9.out.below (bel_at hHeld.1)
      clear V9
      have V9 := Lib.hid y_V9
      clear y_V9
      refine wpAnyH_ready (rs := [10]) (by kernel_rfl) (by simp) ?_
      refine AllReadyH.cons (o := ?o293) ?ho293 (fun K hK => ?st293) AllReadyH.nil
      case ho293 => (simp only [gA, gB, gC]; rfl)
      go_simp
      refine (on.out 10 _ _ _ _).mono ?_; rintro e w8 ⟨rfl, h8⟩; have y_V9 := V9.out.below (h8); clear V9; have V9 := Lib.hid y_V9; clear y_V9; have y_F9 := F9.out.below (h8); clear F9; have F9 := Lib.hid y_F9; clear y_F9
      refine hK.out _ _ ?_ (fun hHeld => ?_)
      · (try dsimp only); exact HALL.out _ (hHeld.1.below h8)
      clear hK K
      (try simp only [Act.put, sA, sB, sC])
      refine wpAnyH_ready (rs := [11]) (by kernel_rfl) (by simp) ?_
      refine AllReadyH.cons (o := ?o294) ?ho294 (fun K hK => ?st294) AllReadyH.nil
      case ho294 => (simp only [gA, gB, gC]; rfl)
      go_simp
      refine (eval_at F9.out (fdk_none _) (vlk_none _) (ok_two (in64_lit (by decide) (by decide)) (ok_con (ok_truth false)) (ok_two (in64_lit (by decide) (by decide)) (ok_two (in64_lit (by decide) (by decide)) (ok_con (ok_int (in64_lit (by decide) (by decide)))) (ok_con (ok_int (in64_lit (by decide) (by decide))))) (ok_con (ok_int (in64_lit (by decide) (by decide)))))) (fun v hv => by cases hv) aw_3).mono ?_; rintro e w9 ⟨rfl, h9⟩; clear F9; have y_V9 := V9.out.below (h9); clear V9; have V9 := Lib.hid y_V9; clear y_V9
      refine hK.out _ _ ?_ (fun hHeld => ?_)
      · (try dsimp only); exact HALL.out _ (hHeld.1.below h9)
      clear hK K
      (try simp only [Act.put, sA, sB, sC])
      refine wpAnyH_take (i := 12) (oi := ?oi295) (v := ?v295) ?hi295 (by kernel_rfl) (by kernel_rfl) (by kernel_rfl) ?hQ295 (Or.inl ⟨?hw295, ?hy295⟩) (by assumption) ?rest295
      case hi295 => (simp only [gA, gB, gC]; rfl)
      case hQ295 => exact fun _ _ _ h => h
      case hw295 => rfl
      case hy295 => (intro w hSw; (try dsimp only at hSw); go_simp; try with_reducible rfl)
      (try simp only [Act.put, sA, sB, sC])
      refine wpAnyH_take (i := 13) (oi := ?oi296) (v := ?v296) ?hi296 (by kernel_rfl) (by kernel_rfl) (by kernel_rfl) ?hQ296 (Or.inl ⟨?hw296, ?hy296⟩) (by assumption) ?rest296
      case hi296 => (simp only [gA, gB, gC]; rfl)
      case hQ296 => exact fun _ _ _ h => h
      case hw296 => rfl
      case hy296 => (intro w hSw; (try dsimp only at hSw); go_simp; try with_reducible rfl)
      (try simp only [Act.put, sA, sB, sC])
      refine wpAnyH_take (i := 14) (oi := ?oi297) (v := ?v297) ?hi297 (by kernel_rfl) (by kernel_rfl) (by kernel_rfl) ?hQ297 (Or.inl ⟨?hw297, ?hy297⟩) (by assumption) ?rest297
      case hi297 => (simp only [gA, gB, gC]; rfl)
      case hQ297 => exact fun _ _ _ h => h
      case hw297 => rfl
      case hy297 => (intro w hSw; (try dsimp only at hSw); go_simp; try with_reducible rfl)
      (try simp only [Act.put, sA, sB, sC])
      obtain ⟨u0, u1, u2, u3, u4, e0, e1, e2, e3, e4, ef⟩ := V9.out.open
      refine wpAnyH_ready (rs := [16]) (by kernel_rfl) (by simp) ?_
      refine AllReadyH.cons (o := ?o298) ?ho298 (fun K hK => ?st298) AllReadyH.nil
      case ho298 => (simp only [gA, gB, gC]; rfl)
      go_simp
      refine hK.out _ _ ?_ (fun hHeld => ?_)
      · (try dsimp only); exact HALL.out _ (AwC.set5 hHeld.1 B9.out.1 HG.out.1 HG.out.2 B9.out.2 _ _ _ _ _)
      clear hK K
      (try simp only [Act.put, sA, sB, sC])
      refine wpAnyH_take (i := 17) (oi := ?oi299) (v := ?v299) ?hi299 (by kernel_rfl) (by kernel_rfl) (by kernel_rfl) ?hQ299 (Or.inl ⟨?hw299, ?hy299⟩) (by assumption) ?rest299
      case hi299 => (simp only [gA, gB, gC]; rfl)
      case hQ299 => exact fun _ _ _ h => h
      case hw299 => rfl
      case hy299 => (intro w hSw; (try dsimp only at hSw); go_simp; try with_reducible rfl)
      (try simp only [Act.put, sA, sB, sC])
      refine wpAnyH_done (by kernel_rfl) ?_ _
      go_wp2_with fail
      go_meet
      exact ⟨_, rfl, rfl, hHeld.1, bx_set (r := vTruth false) e0 e1 e2 e3 e4⟩
    ·
     go_simp
     have hPre := hHeld; have y_B := And.intro hHeld.1.aw.glt (Nat.ne_of_lt hHeld.1.lt5); (try simp only [World.size_alloc] at y_B); have B9 := Lib.hid y_B; clear y_B
     refine hK.out _ _ ?_ (fun hHeld => ?_)
     · (try dsimp only); exact HALL.out _ (hHeld.1.below (alloc1 _ _))
     clear hK K
     (try simp only [Act.put, sA, sB, sC])
     have y_V9 := vb_at hHeld.1
     (try simp only [World.size_alloc] at y_V9)
     have V9 := Lib.hid y_V9
     clear y_V9
     refine wpAnyH_ready (rs := [0, 4]) (by kernel_rfl) (by simp) ?_
     refine AllReadyH.cons (o := ?o300) ?ho300 (fun K hK => ?st300) (AllReadyH.cons (o := ?o301) ?ho301 (fun K hK => ?st301) AllReadyH.nil)
     case ho300 => (simp only [gA, gB, gC]; rfl)
     case ho301 => (simp only [gA, gB, gC]; rfl)
     ·
      go_simp
      refine (tf.out _).mono ?_; rintro e w1 ⟨rfl, h1⟩; have y_V9 := V9.out.below (h1); clear V9; have V9 := Lib.hid y_V9; clear y_V9
      refine hK.out _ _ ?_ (fun hHeld => ?_)
      · (try dsimp only); exact HALL.out _ (hHeld.1.below h1)
      clear hK K
      (try simp only [Act.put, sA, sB, sC])
      refine wpAnyH_ready (rs := [1, 4]) (by kernel_rfl) (by simp) ?_
      refine AllReadyH.cons (o := ?o302) ?ho302 (fun K hK => ?st302) (AllReadyH.cons (o := ?o303) ?ho303 (fun K hK => ?st303) AllReadyH.nil)
      case ho302 => (simp only [gA, gB, gC]; rfl)
      case ho303 => (simp only [gA, gB, gC]; rfl)
      ·
       go_simp
       refine (cn.out (vTruth false) _).mono ?_; rintro e w2 ⟨rfl, h2⟩; have y_V9 := V9.out.below (h2); clear V9; have V9 := Lib.hid y_V9; clear y_V9
       refine hK.out _ _ ?_ (fun hHeld => ?_)
       · (try dsimp only); exact HALL.out _ (hHeld.1.below h2)
       clear hK K
       (try simp only [Act.put, sA, sB, sC])
       refine wpAnyH_ready (rs := [4]) (by kernel_rfl) (by simp) ?_
       refine AllReadyH.cons (o := ?o304) ?ho304 (fun K hK => ?st304) AllReadyH.nil
       case ho304 => (simp only [gA, gB, gC]; rfl)
       go_simp
       refine hK.out _ _ ?_ (fun hHeld => ?_)
       · (try dsimp only); exact HALL.out _ (hHeld.1.below (alloc1 _ _))
       clear hK K
       (try simp only [Act.put, sA, sB, sC])
       have y_F4 := two_at (conX (vInt 1)) (conX (vInt 0)) 7 hHeld.1 (ExE.leaf _ (conX (vInt 1)) rfl) (ExE.leaf _ (conX (vInt 0)) rfl)
       (try simp only [World.size_alloc] at y_F4)
       have F4 := Lib.hid y_F4
       clear y_F4
       have y_V9 := V9.out.below (bel_at hHeld.1)
       clear V9
       have V9 := Lib.hid y_V9
       clear y_V9
       refine wpAnyH_ready (rs := [5]) (by kernel_rfl) (by simp) ?_
       refine AllReadyH.cons (o := ?o305) ?ho305 (fun K hK => ?st305) AllReadyH.nil
       case ho305 => (simp only [gA, gB, gC]; rfl)
       go_simp
       refine (on.out 7 _ _ _ _).mono ?_; rintro e w4 ⟨rfl, h4⟩; have y_V9 := V9.out.below (h4); clear V9; have V9 := Lib.hid y_V9; clear y_V9; have y_F4 := F4.out.below (h4); clear F4; have F4 := Lib.hid y_F4; clear y_F4
       refine hK.out _ _ ?_ (fun hHeld => ?_)
       · (try dsimp only); exact HALL.out _ (hHeld.1.below h4)
       clear hK K
       (try simp only [Act.put, sA, sB, sC])
       refine wpAnyH_ready (rs := [7]) (by kernel_rfl) (by simp) ?_
       refine AllReadyH.cons (o := ?o306) ?ho306 (fun K hK => ?st306) AllReadyH.nil
       case ho306 => (simp only [gA, gB, gC]; rfl)
       go_simp
       refine hK.out _ _ ?_ (fun hHeld => ?_)
       · (try dsimp only); exact HALL.out _ (hHeld.1.below (alloc1 _ _))
       clear hK K
       (try simp only [Act.put, sA, sB, sC])
       have y_F7 := two_at (opX 7 [conX (vInt 1), conX (vInt 0)]) (conX (vInt 1)) 8 hHeld.1 F4.out (ExE.leaf _ (conX (vInt 1)) rfl)
       (try simp only [World.size_alloc] at y_F7)
       clear F4
       have F7 := Lib.hid y_F7
       clear y_F7
       have y_V9 := V9.out.below (bel_at hHeld.1)
       clear V9
       have V9 := Lib.hid y_V9
       clear y_V9
       refine wpAnyH_ready (rs := [8]) (by kernel_rfl) (by simp) ?_
       refine AllReadyH.cons (o := ?o307) ?ho307 (fun K hK => ?st307) AllReadyH.nil
       case ho307 => (simp only [gA, gB, gC]; rfl)
       go_simp
       refine (on.out 8 _ _ _ _).mono ?_; rintro e w6 ⟨rfl, h6⟩; have y_V9 := V9.out.below (h6); clear V9; have V9 := Lib.hid y_V9; clear y_V9; have y_F7 := F7.out.below (h6); clear F7; have F7 := Lib.hid y_F7; clear y_F7
       refine hK.out _ _ ?_ (fun hHeld => ?_)
       · (try dsimp only); exact HALL.out _ (hHeld.1.below h6)
       clear hK K
       (try simp only [Act.put, sA, sB, sC])
       refine wpAnyH_ready (rs := [9]) (by kernel_rfl) (by simp) ?_
       refine AllReadyH.cons (o := ?o308) ?ho308 (fun K hK => ?st308) AllReadyH.nil
       case ho308 => (simp only [gA, gB, gC]; rfl)
       go_simp
       refine hK.out _ _ ?_ (fun hHeld => ?_)
       · (try dsimp only); exact HALL.out _ (hHeld.1.below (alloc1 _ _))
       clear hK K
       (try simp only [Act.put, sA, sB, sC])
       have y_F9 := two_at (conX (vTruth false)) nought 10 hHeld.1 (ExE.leaf _ (conX (vTruth false)) rfl) F7.out
       (try simp only [World.size_alloc] at y_F9)
       clear F7
       have F9 := Lib.hid y_F9
       clear y_F9
       have y_V9 := V9.out.below (bel_at hHeld.1)
       clear V9
       have V9 := Lib.hid y_V9
       clear y_V9
       refine wpAnyH_ready (rs := [10]) (by kernel_rfl) (by simp) ?_
       refine AllReadyH.cons (o := ?o309) ?ho309 (fun K hK => ?st309) AllReadyH.nil
       case ho309 => (simp only [gA, gB, gC]; rfl)
       go_simp
       refine (on.out 10 _ _ _ _).mono ?_; rintro e w8 ⟨rfl, h8⟩; have y_V9 := V9.out.below (h8); clear V9; have V9 := Lib.hid y_V9; clear y_V9; have y_F9 := F9.out.below (h8); clear F9; have F9 := Lib.hid y_F9; clear y_F9
       refine hK.out _ _ ?_ (fun hHeld => ?_)
       · (try dsimp only); exact HALL.out _ (hHeld.1.below h8)
       clear hK K
       (try simp only [Act.put, sA, sB, sC])
       refine wpAnyH_ready (rs := [11]) (by kernel_rfl) (by simp) ?_
       refine AllReadyH.cons (o := ?o310) ?ho310 (fun K hK => ?st310) AllReadyH.nil
       case ho310 => (simp only [gA, gB, gC]; rfl)
       go_simp
       refine (eval_at F9.out (fdk_none _) (vlk_none _) (ok_two (in64_lit (by decide) (by decide)) (ok_con (ok_truth false)) (ok_two (in64_lit (by decide) (by decide)) (ok_two (in64_lit (by decide) (by decide)) (ok_con (ok_int (in64_lit (by decide) (by decide)))) (ok_con (ok_int (in64_lit (by decide) (by decide))))) (ok_con (ok_int (in64_lit (by decide) (by decide)))))) (fun v hv => by cases hv) aw_3).mono ?_; rintro e w9 ⟨rfl, h9⟩; clear F9; have y_V9 := V9.out.below (h9); clear V9; have V9 := Lib.hid y_V9; clear y_V9
       refine hK.out _ _ ?_ (fun hHeld => ?_)
       · (try dsimp only); exact HALL.out _ (hHeld.1.below h9)
       clear hK K
       (try simp only [Act.put, sA, sB, sC])
       refine wpAnyH_take (i := 12) (oi := ?oi311) (v := ?v311) ?hi311 (by kernel_rfl) (by kernel_rfl) (by kernel_rfl) ?hQ311 (Or.inl ⟨?hw311, ?hy311⟩) (by assumption) ?rest311
       case hi311 => (simp only [gA, gB, gC]; rfl)
       case hQ311 => exact fun _ _ _ h => h
       case hw311 => rfl
       case hy311 => (intro w hSw; (try dsimp only at hSw); go_simp; try with_reducible rfl)
       (try simp only [Act.put, sA, sB, sC])
       refine wpAnyH_take (i := 13) (oi := ?oi312) (v := ?v312) ?hi312 (by kernel_rfl) (by kernel_rfl) (by kernel_rfl) ?hQ312 (Or.inl ⟨?hw312, ?hy312⟩) (by assumption) ?rest312
       case hi312 => (simp only [gA, gB, gC]; rfl)
       case hQ312 => exact fun _ _ _ h => h
       case hw312 => rfl
       case hy312 => (intro w hSw; (try dsimp only at hSw); go_simp; try with_reducible rfl)
       (try simp only [Act.put, sA, sB, sC])
       refine wpAnyH_take (i := 14) (oi := ?oi313) (v := ?v313) ?hi313 (by kernel_rfl) (by kernel_rfl) (by kernel_rfl) ?hQ313 (Or.inl ⟨?hw313, ?hy313⟩) (by assumption) ?rest313
       case hi313 => (simp only [gA, gB, gC]; rfl)
       case hQ313 => exact fun _ _ _ h => h
       case hw313 => rfl
       case hy313 => (intro w hSw; (try dsimp only at hSw); go_simp; try with_reducible rfl)
       (try simp only [Act.put, sA, sB, sC])
       obtain ⟨u0, u1, u2, u3, u4, e0, e1, e2, e3, e4, ef⟩ := V9.out.open
       refine wpAnyH_ready (rs := [16]) (by kernel_rfl) (by simp) ?_
       refine AllReadyH.cons (o := ?o314) ?ho314 (fun K hK => ?st314) AllReadyH.nil
       case ho314 => (simp only [gA, gB, gC]; rfl)
       go_simp
       refine hK.out _ _ ?_ (fun hHeld => ?_)
       · (try dsimp only); exact HALL.out _ (AwC.set5 hHeld.1 B9.out.1 HG.out.1 HG.out.2 B9.out.2 _ _ _ _ _)
       clear hK K
       (try simp only [Act.put, sA, sB, sC])
       refine wpAnyH_take (i := 17) (oi := ?oi315) (v := ?v315) ?hi315 (by kernel_rfl) (by kernel_rfl) (by kernel_rfl) ?hQ315 (Or.inl ⟨?hw315, ?hy315⟩) (by assumption) ?rest315
       case hi315 => (simp only [gA, gB, gC]; rfl)
       case hQ315 => exact fun _ _ _ h => h
       case hw315 => rfl
       case hy315 => (intro w hSw; (try dsimp only at hSw); go_simp; try with_reducible rfl)
       (try simp only [Act.put, sA, sB, sC])
       refine wpAnyH_done (by kernel_rfl) ?_ _
       go_wp2_with fail
       go_meet
       exact ⟨_, rfl, rfl, hHeld.1, bx_set (r := vTruth false) e0 e1 e2 e3 e4⟩
      ·
       go_simp
       refine hK.out _ _ ?_ (fun hHeld => ?_)
       · (try dsimp only); exact HALL.out _ (hHeld.1.below (alloc1 _ _))
       clear hK K
       (try simp only [Act.put, sA, sB, sC])
       have y_F4 := two_at (conX (vInt 1)) (conX (vInt 0)) 7 hHeld.1 (ExE.leaf _ (conX (vInt 1)) rfl) (ExE.leaf _ (conX (vInt 0)) rfl)
       (try simp only [World.size_alloc] at y_F4)
       have F4 := Lib.hid y_F4
       clear y_F4
       have y_V9 := V9.out.below (bel_at hHeld.1)
       clear V9
       have V9 := Lib.hid y_V9
       clear y_V9
       refine wpAnyH_ready (rs := [1]) (by kernel_rfl) (by simp) ?_
       refine AllReadyH.cons (o := ?o316) ?ho316 (fun K hK => ?st316) AllReadyH.nil
       case ho316 => (simp only [gA, gB, gC]; rfl)
       go_simp
       refine (cn.out (vTruth false) _).mono ?_; rintro e w3 ⟨rfl, h3⟩; have y_V9 := V9.out.below (h3); clear V9; have V9 := Lib.hid y_V9; clear y_V9; have y_F4 := F4.out.below (h3); clear F4; have F4 := Lib.hid y_F4; clear y_F4
       refine hK.out _ _ ?_ (fun hHeld => ?_)
       · (try dsimp only); exact HALL.out _ (hHeld.1.below h3)
       clear hK K
       (try simp only [Act.put, sA, sB, sC])
       refine wpAnyH_ready (rs := [5]) (by kernel_rfl) (by simp) ?_
       refine AllReadyH.cons (o := ?o317) ?ho317 (fun K hK => ?st317) AllReadyH.nil
       case ho317 => (simp only [gA, gB, gC]; rfl)
       go_simp
       refine (on.out 7 _ _ _ _).mono ?_; rintro e w4 ⟨rfl, h4⟩; have y_V9 := V9.out.below (h4); clear V9; have V9 := Lib.hid y_V9; clear y_V9; have y_F4 := F4.out.below (h4); clear F4; have F4 := Lib.hid y_F4; clear y_F4
       refine hK.out _ _ ?_ (fun hHeld => ?_)
       · (try dsimp only); exact HALL.out _ (hHeld.1.below h4)
       clear hK K
       (try simp only [Act.put, sA, sB, sC])
       refine wpAnyH_ready (rs := [7]) (by kernel_rfl) (by simp) ?_
       refine AllReadyH.cons (o := ?o318) ?ho318 (fun K hK => ?st318) AllReadyH.nil
       case ho318 => (simp only [gA, gB, gC]; rfl)
       go_simp
       refine hK.out _ _ ?_ (fun hHeld => ?_)
       · (try dsimp only); exact HALL.out _ (hHeld.1.below (alloc1 _ _))
       clear hK K
       (try simp only [Act.put, sA, sB, sC])
       have y_F7 := two_at (opX 7 [conX (vInt 1), conX (vInt 0)]) (conX (vInt 1)) 8 hHeld.1 F4.out (ExE.leaf _ (conX (vInt 1)) rfl)
       (try simp only [World.size_alloc] at y_F7)
       clear F4
       have F7 := Lib.hid y_F7
       clear y_F7
       have y_V9 := V9.out.below (bel_at hHeld.1)
       clear V9
       have V9 := Lib.hid y_V9
       clear y_V9
       refine wpAnyH_ready (rs := [8]) (by kernel_rfl) (by simp) ?_
       refine AllReadyH.cons (o := ?o319) ?ho319 (fun K hK => ?st319) AllReadyH.nil
       case ho319 => (simp only [gA, gB, gC]; rfl)
       go_simp
       refine (on.out 8 _ _ _ _).mono ?_; rintro e w6 ⟨rfl, h6⟩; have y_V9 := V9.out.below (h6); clear V9; have V9 := Lib.hid y_V9; clear y_V9; have y_F7 := F7.out.below (h6); clear F7; have F7 := Lib.hid y_F7; clear y_F7
       refine hK.out _ _ ?_ (fun hHeld => ?_)
       · (try dsimp only); exact HALL.out _ (hHeld.1.below h6)
       clear hK K
       (try simp only [Act.put, sA, sB, sC])
       refine wpAnyH_ready (rs := [9]) (by kernel_rfl) (by simp) ?_
       refine AllReadyH.cons (o := ?o320) ?ho320 (fun K hK => ?st320) AllReadyH.nil
       case ho320 => (simp only [gA, gB, gC]; rfl)
       go_simp
       refine hK.out _ _ ?_ (fun hHeld => ?_)
       · (try dsimp only); exact HALL.out _ (hHeld.1.below (alloc1 _ _))
       clear hK K
       (try simp only [Act.put, sA, sB, sC])
       have y_F9 := two_at (conX (vTruth false)) nought 10 hHeld.1 (ExE.leaf _ (conX (vTruth false)) rfl) F7.out
       (try simp only [World.size_alloc] at y_F9)
       clear F7
       have F9 := Lib.hid y_F9
       clear y_F9
       have y_V9 := V9.out.below (bel_at hHeld.1)
       clear V9
       have V9 := Lib.hid y_V9
       clear y_V9
       refine wpAnyH_ready (rs := [10]) (by kernel_rfl) (by simp) ?_
       refine AllReadyH.cons (o := ?o321) ?ho321 (fun K hK => ?st321) AllReadyH.nil
       case ho321 => (simp only [gA, gB, gC]; rfl)
       go_simp
       refine (on.out 10 _ _ _ _).mono ?_; rintro e w8 ⟨rfl, h8⟩; have y_V9 := V9.out.below (h8); clear V9; have V9 := Lib.hid y_V9; clear y_V9; have y_F9 := F9.out.below (h8); clear F9; have F9 := Lib.hid y_F9; clear y_F9
       refine hK.out _ _ ?_ (fun hHeld => ?_)
       · (try dsimp only); exact HALL.out _ (hHeld.1.below h8)
       clear hK K
       (try simp only [Act.put, sA, sB, sC])
       refine wpAnyH_ready (rs := [11]) (by kernel_rfl) (by simp) ?_
       refine AllReadyH.cons (o := ?o322) ?ho322 (fun K hK => ?st322) AllReadyH.nil
       case ho322 => (simp only [gA, gB, gC]; rfl)
       go_simp
       refine (eval_at F9.out (fdk_none _) (vlk_none _) (ok_two (in64_lit (by decide) (by decide)) (ok_con (ok_truth false)) (ok_two (in64_lit (by decide) (by decide)) (ok_two (in64_lit (by decide) (by decide)) (ok_con (ok_int (in64_lit (by decide) (by decide)))) (ok_con (ok_int (in64_lit (by decide) (by decide))))) (ok_con (ok_int (in64_lit (by decide) (by decide)))))) (fun v hv => by cases hv) aw_3).mono ?_; rintro e w9 ⟨rfl, h9⟩; clear F9; have y_V9 := V9.out.below (h9); clear V9; have V9 := Lib.hid y_V9; clear y_V9
       refine hK.out _ _ ?_ (fun hHeld => ?_)
       · (try dsimp only); exact HALL.out _ (hHeld.1.below h9)
       clear hK K
       (try simp only [Act.put, sA, sB, sC])
       refine wpAnyH_take (i := 12) (oi := ?oi323) (v := ?v323) ?hi323 (by kernel_rfl) (by kernel_rfl) (by kernel_rfl) ?hQ323 (Or.inl ⟨?hw323, ?hy323⟩) (by assumption) ?rest323
       case hi323 => (simp only [gA, gB, gC]; rfl)
       case hQ323 => exact fun _ _ _ h => h
       case hw323 => rfl
       case hy323 => (intro w hSw; (try dsimp only at hSw); go_simp; try with_reducible rfl)
       (try simp only [Act.put, sA, sB, sC])
       refine wpAnyH_take (i := 13) (oi := ?oi324) (v := ?v324) ?hi324 (by kernel_rfl) (by kernel_rfl) (by kernel_rfl) ?hQ324 (Or.inl ⟨?hw324, ?hy324⟩) (by assumption) ?rest324
       case hi324 => (simp only [gA, gB, gC]; rfl)
       case hQ324 => exact fun _ _ _ h => h
       case hw324 => rfl
       case hy324 => (intro w hSw; (try dsimp only at hSw); go_simp; try with_reducible rfl)
       (try simp only [Act.put, sA, sB, sC])
       refine wpAnyH_take (i := 14) (oi := ?oi325) (v := ?v325) ?hi325 (by kernel_rfl) (by kernel_rfl) (by kernel_rfl) ?hQ325 (Or.inl ⟨?hw325, ?hy325⟩) (by assumption) ?rest325
       case hi325 => (simp only [gA, gB, gC]; rfl)
       case hQ325 => exact fun _ _ _ h => h
       case hw325 => rfl
       case hy325 => (intro w hSw; (try dsimp only at hSw); go_simp; try with_reducible rfl)
       (try simp only [Act.put, sA, sB, sC])
       obtain ⟨u0, u1, u2, u3, u4, e0, e1, e2, e3, e4, ef⟩ := V9.out.open
       refine wpAnyH_ready (rs := [16]) (by kernel_rfl) (by simp) ?_
       refine AllReadyH.cons (o := ?o326) ?ho326 (fun K hK => ?st326) AllReadyH.nil
       case ho326 => (simp only [gA, gB, gC]; rfl)
       go_simp
       refine hK.out _ _ ?_ (fun hHeld => ?_)
       · (try dsimp only); exact HALL.out _ (AwC.set5 hHeld.1 B9.out.1 HG.out.1 HG.out.2 B9.out.2 _ _ _ _ _)
       clear hK K
       (try simp only [Act.put, sA, sB, sC])
       refine wpAnyH_take (i := 17) (oi := ?oi327) (v := ?v327) ?hi327 (by kernel_rfl) (by kernel_rfl) (by kernel_rfl) ?hQ327 (Or.inl ⟨?hw327, ?hy327⟩) (by assumption) ?rest327
       case hi327 => (simp only [gA, gB, gC]; rfl)
       case hQ327 => exact fun _ _ _ h => h
       case hw327 => rfl
       case hy327 => (intro w hSw; (try dsimp only at hSw); go_simp; try with_reducible rfl)
       (try simp only [Act.put, sA, sB, sC])
       refine wpAnyH_done (by kernel_rfl) ?_ _
       go_wp2_with fail
       go_meet
       exact ⟨_, rfl, rfl, hHeld.1, bx_set (r := vTruth false) e0 e1 e2 e3 e4⟩
     ·
      go_simp
      refine hK.out _ _ ?_ (fun hHeld => ?_)
      · (try dsimp only); exact HALL.out _ (hHeld.1.below (alloc1 _ _))
      clear hK K
      (try simp only [Act.put, sA, sB, sC])
      have y_F4 := two_at (conX (vInt 1)) (conX (vInt 0)) 7 hHeld.1 (ExE.leaf _ (conX (vInt 1)) rfl) (ExE.leaf _ (conX (vInt 0)) rfl)
      (try simp only [World.size_alloc] at y_F4)
      have F4 := Lib.hid y_F4
      clear y_F4
      have y_V9 := V9.out.below (bel_at hHeld.1)
      clear V9
      have V9 := Lib.hid y_V9
      clear y_V9
      refine wpAnyH_ready (rs := [0]) (by kernel_rfl) (by simp) ?_
      refine AllReadyH.cons (o := ?o328) ?ho328 (fun K hK => ?st328) AllReadyH.nil
      case ho328 => (simp only [gA, gB, gC]; rfl)
      go_simp
      refine (tf.out _).mono ?_; rintro e w2 ⟨rfl, h2⟩; have y_V9 := V9.out.below (h2); clear V9; have V9 := Lib.hid y_V9; clear y_V9; have y_F4 := F4.out.below (h2); clear F4; have F4 := Lib.hid y_F4; clear y_F4
      refine hK.out _ _ ?_ (fun hHeld => ?_)
      · (try dsimp only); exact HALL.out _ (hHeld.1.below h2)
      clear hK K
      (try simp only [Act.put, sA, sB, sC])
      refine wpAnyH_ready (rs := [1]) (by kernel_rfl) (by simp) ?_
      refine AllReadyH.cons (o := ?o329) ?ho329 (fun K hK => ?st329) AllReadyH.nil
      case ho329 => (simp only [gA, gB, gC]; rfl)
      go_simp
      refine (cn.out (vTruth false) _).mono ?_; rintro e w3 ⟨rfl, h3⟩; have y_V9 := V9.out.below (h3); clear V9; have V9 := Lib.hid y_V9; clear y_V9; have y_F4 := F4.out.below (h3); clear F4; have F4 := Lib.hid y_F4; clear y_F4
      refine hK.out _ _ ?_ (fun hHeld => ?_)
      · (try dsimp only); exact HALL.out _ (hHeld.1.below h3)
      clear hK K
      (try simp only [Act.put, sA, sB, sC])
      refine wpAnyH_ready (rs := [5]) (by kernel_rfl) (by simp) ?_
      refine AllReadyH.cons (o := ?o330) ?ho330 (fun K hK => ?st330) AllReadyH.nil
      case ho330 => (simp only [gA, gB, gC]; rfl)
      go_simp
      refine (on.out 7 _ _ _ _).mono ?_; rintro e w4 ⟨rfl, h4⟩; have y_V9 := V9.out.below (h4); clear V9; have V9 := Lib.hid y_V9; clear y_V9; have y_F4 := F4.out.below (h4); clear F4; have F4 := Lib.hid y_F4; clear y_F4
      refine hK.out _ _ ?_ (fun hHeld => ?_)
      · (try dsimp only); exact HALL.out _ (hHeld.1.below h4)
      clear hK K
      (try simp only [Act.put, sA, sB, sC])
      refine wpAnyH_ready (rs := [7]) (by kernel_rfl) (by simp) ?_
      refine AllReadyH.cons (o := ?o331) ?ho331 (fun K hK => ?st331) AllReadyH.nil
      case ho331 => (simp only [gA, gB, gC]; rfl)
      go_simp
      refine hK.out _ _ ?_ (fun hHeld => ?_)
      · (try dsimp only); exact HALL.out _ (hHeld.1.below (alloc1 _ _))
      clear hK K
      (try simp only [Act.put, sA, sB, sC])
      have y_F7 := two_at (opX 7 [conX (vInt 1), conX (vInt 0)]) (conX (vInt 1)) 8 hHeld.1 F4.out (ExE.leaf _ (conX (vInt 1)) rfl)
      (try simp only [World.size_alloc] at y_F7)
      clear F4
      have F7 := Lib.hid y_F7
      clear y_F7
      have y_V9 := V9.out.below (bel_at hHeld.1)
      clear V9
      have V9 := Lib.hid y_V9
      clear y_V9
      refine wpAnyH_ready (rs := [8]) (by kernel_rfl) (by simp) ?_
      refine AllReadyH.cons (o := ?o332) ?ho332 (fun K hK => ?st332) AllReadyH.nil
      case ho332 => (simp only [gA, gB, gC]; rfl)
      go_simp
      refine (on.out 8 _ _ _ _).mono ?_; rintro e w6 ⟨rfl, h6⟩; have y_V9 := V9.out.below (h6); clear V9; have V9 := Lib.hid y_V9; clear y_V9; have y_F7 := F7.out.below (h6); clear F7; have F7 := Lib.hid y_F7; clear y_F7
      refine hK.out _ _ ?_ (fun hHeld => ?_)
      · (try dsimp only); exact HALL.out _ (hHeld.1.below h6)
      clear hK K
      (try simp only [Act.put, sA, sB, sC])
      refine wpAnyH_ready (rs := [9]) (by kernel_rfl) (by simp) ?_
      refine AllReadyH.cons (o := ?o333) ?ho333 (fun K hK => ?st333) AllReadyH.nil
      case ho333 => (simp only [gA, gB, gC]; rfl)
      go_simp
      refine hK.out _ _ ?_ (fun hHeld => ?_)
      · (try dsimp only); exact HALL.out _ (hHeld.1.below (alloc1 _ _))
      clear hK K
      (try simp only [Act.put, sA, sB, sC])
      have y_F9 := two_at (conX (vTruth false)) nought 10 hHeld.1 (ExE.leaf _ (conX (vTruth false)) rfl) F7.out
      (try simp only [World.size_alloc] at y_F9)
      clear F7
      have F9 := Lib.hid y_F9
      clear y_F9
      have y_V9 := V9.out.below (bel_at hHeld.1)
      clear V9
      have V9 := Lib.hid y_V9
      clear y_V9
      refine wpAnyH_ready (rs := [10]) (by kernel_rfl) (by simp) ?_
      refine AllReadyH.cons (o := ?o334) ?ho334 (fun K hK => ?st334) AllReadyH.nil
      case ho334 => (simp only [gA, gB, gC]; rfl)
      go_simp
      refine (on.out 10 _ _ _ _).mono ?_; rintro e w8 ⟨rfl, h8⟩; have y_V9 := V9.out.below (h8); clear V9; have V9 := Lib.hid y_V9; clear y_V9; have y_F9 := F9.out.below (h8); clear F9; have F9 := Lib.hid y_F9; clear y_F9
      refine hK.out _ _ ?_ (fun hHeld => ?_)
      · (try dsimp only); exact HALL.out _ (hHeld.1.below h8)
      clear hK K
      (try simp only [Act.put, sA, sB, sC])
      refine wpAnyH_ready (rs := [11]) (by kernel_rfl) (by simp) ?_
      refine AllReadyH.cons (o := ?o335) ?ho335 (fun K hK => ?st335) AllReadyH.nil
      case ho335 => (simp only [gA, gB, gC]; rfl)
      go_simp
      refine (eval_at F9.out (fdk_none _) (vlk_none _) (ok_two (in64_lit (by decide) (by decide)) (ok_con (ok_truth false)) (ok_two (in64_lit (by decide) (by decide)) (ok_two (in64_lit (by decide) (by decide)) (ok_con (ok_int (in64_lit (by decide) (by decide)))) (ok_con (ok_int (in64_lit (by decide) (by decide))))) (ok_con (ok_int (in64_lit (by decide) (by decide)))))) (fun v hv => by cases hv) aw_3).mono ?_; rintro e w9 ⟨rfl, h9⟩; clear F9; have y_V9 := V9.out.below (h9); clear V9; have V9 := Lib.hid y_V9; clear y_V9
      refine hK.out _ _ ?_ (fun hHeld => ?_)
      · (try dsimp only); exact HALL.out _ (hHeld.1.below h9)
      clear hK K
      (try simp only [Act.put, sA, sB, sC])
      refine wpAnyH_take (i := 12) (oi := ?oi336) (v := ?v336) ?hi336 (by kernel_rfl) (by kernel_rfl) (by kernel_rfl) ?hQ336 (Or.inl ⟨?hw336, ?hy336⟩) (by assumption) ?rest336
      case hi336 => (simp only [gA, gB, gC]; rfl)
      case hQ336 => exact fun _ _ _ h => h
      case hw336 => rfl
      case hy336 => (intro w hSw; (try dsimp only at hSw); go_simp; try with_reducible rfl)
      (try simp only [Act.put, sA, sB, sC])
      refine wpAnyH_take (i := 13) (oi := ?oi337) (v := ?v337) ?hi337 (by kernel_rfl) (by kernel_rfl) (by kernel_rfl) ?hQ337 (Or.inl ⟨?hw337, ?hy337⟩) (by assumption) ?rest337
      case hi337 => (simp only [gA, gB, gC]; rfl)
      case hQ337 => exact fun _ _ _ h => h
      case hw337 => rfl
      case hy337 => (intro w hSw; (try dsimp only at hSw); go_simp; try with_reducible rfl)
      (try simp only [Act.put, sA, sB, sC])
      refine wpAnyH_take (i := 14) (oi := ?oi338) (v := ?v338) ?hi338 (by kernel_rfl) (by kernel_rfl) (by kernel_rfl) ?hQ338 (Or.inl ⟨?hw338, ?hy338⟩) (by assumption) ?rest338
      case hi338 => (simp only [gA, gB, gC]; rfl)
      case hQ338 => exact fun _ _ _ h => h
      case hw338 => rfl
      case hy338 => (intro w hSw; (try dsimp only at hSw); go_simp; try with_reducible rfl)
      (try simp only [Act.put, sA, sB, sC])
      obtain ⟨u0, u1, u2, u3, u4, e0, e1, e2, e3, e4, ef⟩ := V9.out.open
      refine wpAnyH_ready (rs := [16]) (by kernel_rfl) (by simp) ?_
      refine AllReadyH.cons (o := ?o339) ?ho339 (fun K hK => ?st339) AllReadyH.nil
      case ho339 => (simp only [gA, gB, gC]; rfl)
      go_simp
      refine hK.out _ _ ?_ (fun hHeld => ?_)
      · (try dsimp only); exact HALL.out _ (AwC.set5 hHeld.1 B9.out.1 HG.out.1 HG.out.2 B9.out.2 _ _ _ _ _)
      clear hK K
      (try simp only [Act.put, sA, sB, sC])
      refine wpAnyH_take (i := 17) (oi := ?oi340) (v := ?v340) ?hi340 (by kernel_rfl) (by kernel_rfl) (by kernel_rfl) ?hQ340 (Or.inl ⟨?hw340, ?hy340⟩) (by assumption) ?rest340
      case hi340 => (simp only [gA, gB, gC]; rfl)
      case hQ340 => exact fun _ _ _ h => h
      case hw340 => rfl
      case hy340 => (intro w hSw; (try dsimp only at hSw); go_simp; try with_reducible rfl)
      (try simp only [Act.put, sA, sB, sC])
      refine wpAnyH_done (by kernel_rfl) ?_ _
      go_wp2_with fail
      go_meet
      exact ⟨_, rfl, rfl, hHeld.1, bx_set (r := vTruth false) e0 e1 e2 e3 e4⟩
  case rest =>
  obtain ⟨b9, rfl, rfl, hc, hx9⟩ := hcut
  have HX9 := Lib.hid hx9
  have HC := Lib.hid hc
  clear hx9 hc HW
  obtain ⟨-, ⟨p0, p1, p2, p3, p4, p5, p6, p7⟩, ⟨q0, q1, q2, q3, q4, q5, q6, q7⟩, -⟩ := HALL.out _ HC.out
  go_wp2_with fail
  refine (on.out 7 _ _ _ _).mono ?_
  rintro e wP ⟨rfl, hP⟩
  have x1 := (ExE.two 7 (ExE.leaf wc (conX (vInt 1)) rfl) (ExE.leaf wc (conX (vInt 0)) rfl)).below hP
  have c1 := (HC.out.below (alloc1 _ _)).below hP
  have v1 := (HX9.out.below (alloc1 _ _)).below hP
  have X1 := Lib.hid x1
  have C1 := Lib.hid c1
  have V1 := Lib.hid v1
  clear x1 c1 v1 hP p0 p1 p2 p3 p4 p5 p6 p7 q0 q1 q2 q3 q4 q5 q6 q7
  go_wp2_with fail
  refine (eval_at X1.out (fdk_none _) (vlk_none _) (ok_two (in64_lit (by decide) (by decide)) (ok_con (ok_int (in64_lit (by decide) (by decide)))) (ok_con (ok_int (in64_lit (by decide) (by decide))))) (fun v hv => by cases hv) aw_4).mono ?_
  rintro e wQ ⟨rfl, hQ⟩
  have C2 := Lib.hid (C1.out.below hQ)
  have V2 := Lib.hid (V1.out.below hQ)
  clear X1 C1 V1 hQ
  go_upto_region 8 with fail
  have hc3 := C2.out.below (alloc1 wQ (.cells #[.int .i64 vZero.k, .int .i64 vZero.i, .bool vZero.b, .string vZero.s, .float .f64 vZero.n] 25))
  have hv3 := V2.out.below (alloc1 wQ (.cells #[.int .i64 vZero.k, .int .i64 vZero.i, .bool vZero.b, .string vZero.s, .float .f64 vZero.n] 25))
  clear C2 V2
  generalize wQ.alloc (.cells #[.int .i64 vZero.k, .int .i64 vZero.i, .bool vZero.b, .string vZero.s, .float .f64 vZero.n] 25) = wR at *
  have hall8 := fun (W : World) (h : AwC w b g b5 W ∧ Bx W b9 (vTruth false)) => (show AwC w b g b5 W ∧ W.cell? ⟨b5, 1, none⟩ = some (.int .i64 3) ∧ W.cell? ⟨b9, 0, none⟩ = some (.int .i64 2) ∧ W.cell? ⟨b9, 1, none⟩ = some (.int .i64 0) ∧ W.cell? ⟨b9, 2, none⟩ = some (.bool false) ∧ W.cell? ⟨b9, 3, none⟩ = some (.string ⟨#[]⟩) ∧ W.cell? ⟨b9, 4, none⟩ = some (.float .f64 0) from ⟨h.1, h.1.v5.2.1, h.2⟩)
  have HALL8 := Lib.hid hall8
  clear hall8
  have hsm : ∀ W, Calls Tryz.prog 50 #[agV (vTruth false), agV (vTruth false)] W (VMk (.bool true) W) := fun W => by
    have h := rSame_val (vTruth false) (vTruth false) W
    rwa [show sameV (vTruth false) (vTruth false) = true from by unfold sameV; simp] at h
  have SM := Lib.hid hsm
  clear hsm
  have hS8 : (fun W => AwC w b g b5 W ∧ W.cell? ⟨b5, 1, none⟩ = some (.int .i64 3) ∧ W.cell? ⟨b9, 0, none⟩ = some (.int .i64 2) ∧ W.cell? ⟨b9, 1, none⟩ = some (.int .i64 0) ∧ W.cell? ⟨b9, 2, none⟩ = some (.bool false) ∧ W.cell? ⟨b9, 3, none⟩ = some (.string ⟨#[]⟩) ∧ W.cell? ⟨b9, 4, none⟩ = some (.float .f64 0)) wR.drew := HALL8.out _ ⟨hc3.below (Below.refl _ _).drew, hv3.below (Below.refl _ _).drew⟩
  clear hc3 hv3
  refine wp_region_held_drew (S := (fun W => AwC w b g b5 W ∧ W.cell? ⟨b5, 1, none⟩ = some (.int .i64 3) ∧ W.cell? ⟨b9, 0, none⟩ = some (.int .i64 2) ∧ W.cell? ⟨b9, 1, none⟩ = some (.int .i64 0) ∧ W.cell? ⟨b9, 2, none⟩ = some (.bool false) ∧ W.cell? ⟨b9, 3, none⟩ = some (.string ⟨#[]⟩) ∧ W.cell? ⟨b9, 4, none⟩ = some (.float .f64 0))) (by kernel_rfl) (hS8) (fun hHeld => ?_)
  refine wpAnyH_take (i := 0) (oi := ?oi353) (v := ?v353) ?hi353 (by kernel_rfl) (by kernel_rfl) (by kernel_rfl) ?hQ353 (Or.inl ⟨?hw353, ?hy353⟩) (by assumption) ?rest353
  case hi353 => (simp only [gA, gB, gC]; rfl)
  case hQ353 => exact fun _ _ _ h => h
  case hw353 => rfl
  case hy353 => (intro w hSw; (try dsimp only at hSw); go_simp; try with_reducible rfl)
  (try simp only [Act.put, sA, sB, sC])
  refine wpAnyH_take (i := 1) (oi := ?oi354) (v := ?v354) ?hi354 (by kernel_rfl) (by kernel_rfl) (by kernel_rfl) ?hQ354 (Or.inl ⟨?hw354, ?hy354⟩) (by assumption) ?rest354
  case hi354 => (simp only [gA, gB, gC]; rfl)
  case hQ354 => exact fun _ _ _ h => h
  case hw354 => rfl
  case hy354 => (intro w hSw; (try dsimp only at hSw); go_simp; try with_reducible rfl)
  (try simp only [Act.put, sA, sB, sC])
  refine wpAnyH_take (i := 2) (oi := ?oi355) (v := ?v355) ?hi355 (by kernel_rfl) (by kernel_rfl) (by kernel_rfl) ?hQ355 (Or.inl ⟨?hw355, ?hy355⟩) (by assumption) ?rest355
  case hi355 => (simp only [gA, gB, gC]; rfl)
  case hQ355 => exact fun _ _ _ h => h
  case hw355 => rfl
  case hy355 => (intro w hSw; (try dsimp only at hSw); go_simp; try with_reducible rfl)
  (try simp only [Act.put, sA, sB, sC])
  refine wpAnyH_take (i := 3) (oi := ?oi356) (v := ?v356) ?hi356 (by kernel_rfl) (by kernel_rfl) (by kernel_rfl) ?hQ356 (Or.inl ⟨?hw356, ?hy356⟩) (by assumption) ?rest356
  case hi356 => (simp only [gA, gB, gC]; rfl)
  case hQ356 => exact fun _ _ _ h => h
  case hw356 => rfl
  case hy356 => (intro w hSw; (try dsimp only at hSw); go_simp; try with_reducible rfl)
  (try simp only [Act.put, sA, sB, sC])
  refine wpAnyH_take (i := 4) (oi := ?oi357) (v := ?v357) ?hi357 (by kernel_rfl) (by kernel_rfl) (by kernel_rfl) ?hQ357 (Or.inl ⟨?hw357, ?hy357⟩) (by assumption) ?rest357
  case hi357 => (simp only [gA, gB, gC]; rfl)
  case hQ357 => exact fun _ _ _ h => h
  case hw357 => rfl
  case hy357 => (intro w hSw; (try dsimp only at hSw); go_simp; try with_reducible rfl)
  (try simp only [Act.put, sA, sB, sC])
  refine wpAnyH_take (i := 5) (oi := ?oi358) (v := ?v358) ?hi358 (by kernel_rfl) (by kernel_rfl) (by kernel_rfl) ?hQ358 (Or.inl ⟨?hw358, ?hy358⟩) (by assumption) ?rest358
  case hi358 => (simp only [gA, gB, gC]; rfl)
  case hQ358 => exact fun _ _ _ h => h
  case hw358 => rfl
  case hy358 => (intro w hSw; (try dsimp only at hSw); go_simp; try with_reducible rfl)
  (try simp only [Act.put, sA, sB, sC])
  refine wpAnyH_take (i := 6) (oi := ?oi359) (v := ?v359) ?hi359 (by kernel_rfl) (by kernel_rfl) (by kernel_rfl) ?hQ359 (Or.inl ⟨?hw359, ?hy359⟩) (by assumption) ?rest359
  case hi359 => (simp only [gA, gB, gC]; rfl)
  case hQ359 => exact fun _ _ _ h => h
  case hw359 => rfl
  case hy359 => (intro w hSw; (try dsimp only at hSw); go_simp; try with_reducible rfl)
  (try simp only [Act.put, sA, sB, sC])
  refine wpAnyH_take (i := 7) (oi := ?oi360) (v := ?v360) ?hi360 (by kernel_rfl) (by kernel_rfl) (by kernel_rfl) ?hQ360 (Or.inl ⟨?hw360, ?hy360⟩) (by assumption) ?rest360
  case hi360 => (simp only [gA, gB, gC]; rfl)
  case hQ360 => exact fun _ _ _ h => h
  case hw360 => rfl
  case hy360 => (intro w hSw; (try dsimp only at hSw); go_simp; try with_reducible rfl)
  (try simp only [Act.put, sA, sB, sC])
  refine wpAnyH_take (i := 8) (oi := ?oi361) (v := ?v361) ?hi361 (by kernel_rfl) (by kernel_rfl) (by kernel_rfl) ?hQ361 (Or.inl ⟨?hw361, ?hy361⟩) (by assumption) ?rest361
  case hi361 => (simp only [gA, gB, gC]; rfl)
  case hQ361 => exact fun _ _ _ h => h
  case hw361 => rfl
  case hy361 => (intro w hSw; (try dsimp only at hSw); go_simp; try with_reducible rfl)
  (try simp only [Act.put, sA, sB, sC])
  refine wpAnyH_take (i := 9) (oi := ?oi362) (v := ?v362) ?hi362 (by kernel_rfl) (by kernel_rfl) (by kernel_rfl) ?hQ362 (Or.inl ⟨?hw362, ?hy362⟩) (by assumption) ?rest362
  case hi362 => (simp only [gA, gB, gC]; rfl)
  case hQ362 => exact fun _ _ _ h => h
  case hw362 => rfl
  case hy362 => (intro w hSw; (try dsimp only at hSw); go_simp; try with_reducible rfl)
  (try simp only [Act.put, sA, sB, sC])
  refine wpAnyH_take (i := 10) (oi := ?oi363) (v := ?v363) ?hi363 (by kernel_rfl) (by kernel_rfl) (by kernel_rfl) ?hQ363 (Or.inl ⟨?hw363, ?hy363⟩) (by assumption) ?rest363
  case hi363 => (simp only [gA, gB, gC]; rfl)
  case hQ363 => exact fun _ _ _ h => h
  case hw363 => rfl
  case hy363 => (intro w hSw; (try dsimp only at hSw); go_simp; try with_reducible rfl)
  (try simp only [Act.put, sA, sB, sC])
  refine wpAnyH_take (i := 11) (oi := ?oi364) (v := ?v364) ?hi364 (by kernel_rfl) (by kernel_rfl) (by kernel_rfl) ?hQ364 (Or.inl ⟨?hw364, ?hy364⟩) (by assumption) ?rest364
  case hi364 => (simp only [gA, gB, gC]; rfl)
  case hQ364 => exact fun _ _ _ h => h
  case hw364 => rfl
  case hy364 => (intro w hSw; (try dsimp only at hSw); go_simp; try with_reducible rfl)
  (try simp only [Act.put, sA, sB, sC])
  refine wpAnyH_take (i := 12) (oi := ?oi365) (v := ?v365) ?hi365 (by kernel_rfl) (by kernel_rfl) (by kernel_rfl) ?hQ365 (Or.inl ⟨?hw365, ?hy365⟩) (by assumption) ?rest365
  case hi365 => (simp only [gA, gB, gC]; rfl)
  case hQ365 => exact fun _ _ _ h => h
  case hw365 => rfl
  case hy365 => (intro w hSw; (try dsimp only at hSw); go_simp; try with_reducible rfl)
  (try simp only [Act.put, sA, sB, sC])
  refine wpAnyH_take (i := 13) (oi := ?oi366) (v := ?v366) ?hi366 (by kernel_rfl) (by kernel_rfl) (by kernel_rfl) ?hQ366 (Or.inl ⟨?hw366, ?hy366⟩) (by assumption) ?rest366
  case hi366 => (simp only [gA, gB, gC]; rfl)
  case hQ366 => exact fun _ _ _ h => h
  case hw366 => rfl
  case hy366 => (intro w hSw; (try dsimp only at hSw); go_simp; try with_reducible rfl)
  (try simp only [Act.put, sA, sB, sC])
  refine wpAnyH_take (i := 14) (oi := ?oi367) (v := ?v367) ?hi367 (by kernel_rfl) (by kernel_rfl) (by kernel_rfl) ?hQ367 (Or.inl ⟨?hw367, ?hy367⟩) (by assumption) ?rest367
  case hi367 => (simp only [gA, gB, gC]; rfl)
  case hQ367 => exact fun _ _ _ h => h
  case hw367 => rfl
  case hy367 => (intro w hSw; (try dsimp only at hSw); go_simp; try with_reducible rfl)
  (try simp only [Act.put, sA, sB, sC])
  refine wpAnyH_take (i := 15) (oi := ?oi368) (v := ?v368) ?hi368 (by kernel_rfl) (by kernel_rfl) (by kernel_rfl) ?hQ368 (Or.inl ⟨?hw368, ?hy368⟩) (by assumption) ?rest368
  case hi368 => (simp only [gA, gB, gC]; rfl)
  case hQ368 => exact fun _ _ _ h => h
  case hw368 => rfl
  case hy368 => (intro w hSw; (try dsimp only at hSw); go_simp; try with_reducible rfl)
  (try simp only [Act.put, sA, sB, sC])
  refine wpAnyH_take (i := 16) (oi := ?oi369) (v := ?v369) ?hi369 (by kernel_rfl) (by kernel_rfl) (by kernel_rfl) ?hQ369 (Or.inl ⟨?hw369, ?hy369⟩) (by assumption) ?rest369
  case hi369 => (simp only [gA, gB, gC]; rfl)
  case hQ369 => exact fun _ _ _ h => h
  case hw369 => rfl
  case hy369 => (intro w hSw; (try dsimp only at hSw); go_simp; try with_reducible rfl)
  (try simp only [Act.put, sA, sB, sC])
  refine wpAnyH_ready (rs := [17]) (by kernel_rfl) (by simp) ?_
  refine AllReadyH.cons (o := ?o370) ?ho370 (fun K hK => ?st370) AllReadyH.nil
  case ho370 => (simp only [gA, gB, gC]; rfl)
  go_simp
  refine (tf.out _).mono ?_; rintro e wT ⟨rfl, hT⟩
  refine hK.out _ _ ?_ (fun hHeld => ?_)
  · (try dsimp only); exact HALL8.out _ ⟨hHeld.1.below hT, (show Bx _ b9 (vTruth false) from hHeld.2.2).below hT⟩
  clear hK K
  (try simp only [Act.put, sA, sB, sC])
  refine wpAnyH_ready (rs := [18]) (by kernel_rfl) (by simp) ?_
  refine AllReadyH.cons (o := ?o371) ?ho371 (fun K hK => ?st371) AllReadyH.nil
  case ho371 => (simp only [gA, gB, gC]; rfl)
  go_simp
  refine (SM.out _).mono ?_; rintro e wS ⟨rfl, hSm⟩
  refine hK.out _ _ ?_ (fun hHeld => ?_)
  · (try dsimp only); exact HALL8.out _ ⟨hHeld.1.below hSm, (show Bx _ b9 (vTruth false) from hHeld.2.2).below hSm⟩
  clear hK K
  (try simp only [Act.put, sA, sB, sC])
  refine wpAnyH_take (i := 19) (oi := ?oi372) (v := ?v372) ?hi372 (by kernel_rfl) (by kernel_rfl) (by kernel_rfl) ?hQ372 (Or.inl ⟨?hw372, ?hy372⟩) (by assumption) ?rest372
  case hi372 => (simp only [gA, gB, gC]; rfl)
  case hQ372 => exact fun _ _ _ h => h
  case hw372 => rfl
  case hy372 => (intro w hSw; (try dsimp only at hSw); go_simp; try with_reducible rfl)
  (try simp only [Act.put, sA, sB, sC])
  refine wpAnyH_take (i := 20) (oi := ?oi373) (v := ?v373) ?hi373 (by kernel_rfl) (by kernel_rfl) (by kernel_rfl) ?hQ373 (Or.inl ⟨?hw373, ?hy373⟩) (by assumption) ?rest373
  case hi373 => (simp only [gA, gB, gC]; rfl)
  case hQ373 => exact fun _ _ _ h => h
  case hw373 => rfl
  case hy373 => (intro w hSw; (try dsimp only at hSw); go_simp; try with_reducible rfl)
  (try simp only [Act.put, sA, sB, sC])
  refine wpAnyH_take (i := 21) (oi := ?oi374) (v := ?v374) ?hi374 (by kernel_rfl) (by kernel_rfl) (by kernel_rfl) ?hQ374 (Or.inl ⟨?hw374, ?hy374⟩) (by assumption) ?rest374
  case hi374 => (simp only [gA, gB, gC]; rfl)
  case hQ374 => exact fun _ _ _ h => h
  case hw374 => rfl
  case hy374 => (intro w hSw; (try dsimp only at hSw); go_simp; try with_reducible rfl)
  (try simp only [Act.put, sA, sB, sC])
  refine wpAnyH_take (i := 22) (oi := ?oi375) (v := ?v375) ?hi375 (by kernel_rfl) (by kernel_rfl) (by kernel_rfl) ?hQ375 (Or.inl ⟨?hw375, ?hy375⟩) (by assumption) ?rest375
  case hi375 => (simp only [gA, gB, gC]; rfl)
  case hQ375 => exact fun _ _ _ h => h
  case hw375 => rfl
  case hy375 => (intro w hSw; (try dsimp only at hSw); go_simp; try with_reducible rfl)
  (try simp only [Act.put, sA, sB, sC])
  refine wpAnyH_take (i := 23) (oi := ?oi376) (v := ?v376) ?hi376 (by kernel_rfl) (by kernel_rfl) (by kernel_rfl) ?hQ376 (Or.inl ⟨?hw376, ?hy376⟩) (by assumption) ?rest376
  case hi376 => (simp only [gA, gB, gC]; rfl)
  case hQ376 => exact fun _ _ _ h => h
  case hw376 => rfl
  case hy376 => (intro w hSw; (try dsimp only at hSw); go_simp; try with_reducible rfl)
  (try simp only [Act.put, sA, sB, sC])
  refine wpAnyH_take (i := 24) (oi := ?oi377) (v := ?v377) ?hi377 (by kernel_rfl) (by kernel_rfl) (by kernel_rfl) ?hQ377 (Or.inl ⟨?hw377, ?hy377⟩) (by assumption) ?rest377
  case hi377 => (simp only [gA, gB, gC]; rfl)
  case hQ377 => exact fun _ _ _ h => h
  case hw377 => rfl
  case hy377 => (intro w hSw; (try dsimp only at hSw); go_simp; try with_reducible rfl)
  (try simp only [Act.put, sA, sB, sC])
  refine wpAnyH_done (by kernel_rfl) ?_ _
  go_wp2_with fail
  go_ret
  exact ⟨rfl, hHeld.1.aw.bel⟩
end Go.Proofs.YtkhpgejammgolaaGreat
