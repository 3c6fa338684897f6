/- Cg: EGet4 EBack ELong ERGet1 ERGet2 ERGet3 ERGet4 ECodes (made by shake.py). -/
import Derived.Deep.QuietTactic
import Derived.BigQuiet
import Derived.Test.YtkhpgejammgolaaGreatCf
/- Layer 5: Get, by the program. -/
namespace Go.Proofs.YtkhpgejammgolaaGreat
open Go.RowKit
set_option linter.unusedVariables false
set_option linter.unusedSimpArgs false
set_option maxRecDepth 20000

/-- what Get leaves: an error, or the expression in new memory -/
def GxE (g : Nat) (er : Int) (w : World) (e : Ending) (w' : World) : Prop := e = .returned (.tuple #[agZ, .int .i64 er]) ∧ (∃ r' e', RdR w' g r' e') ∧ Only g w w'
def GxO (g : Nat) (x : Ex × Int × List UInt8) (w : World) (e : Ending) (w' : World) : Prop :=
  ∃ A c, e = .returned (.tuple #[agX x.1.op A x.1.kids.length c x.1.name x.1.val, .int .i64 0]) ∧ ExS (fun b => w.heap.size ≤ b) w' 6 A c x.1 ∧ RdR w' g x.2.2 0 ∧ Only g w w'
def GxP (g : Nat) (x : Except Int (Ex × Int × List UInt8)) (w : World) (e : Ending) (w' : World) : Prop := match x with
  | .error er => GxE g er w e w'
  | .ok y => GxO g y w e w'
theorem Only.new {g k : Nat} {a w w' : World} (h : Only g a w) (ho : Only k w w') (hk : a.heap.size ≤ k) : Only g a w' :=
  ⟨ho.os.trans h.os, ho.tape.trans h.tape, ho.output.trans h.output, Nat.le_trans h.size ho.size, fun m hm h1 => (ho.block m (Nat.lt_of_lt_of_le hm h.size) (by intro e; injection e with e; omega)).trans (h.block m hm h1)⟩
theorem GxE.mk {g b6 : Nat} {er e' : Int} {r' : List UInt8} {w W : World} {cs : Array Value} (hr : RdR W g r' e') (ho : Only g w W) (hz : W.heap[b6]? = some (.cells cs 27 (0, 0))) (hb : w.heap.size ≤ b6) (hg : g ≠ b6) (u0 u1 u2 u3 u4 u5 u6 u7 : Value) :
    GxE g er w (.returned (.tuple #[agZ, .int .i64 er])) (set8 W b6 u0 u1 u2 u3 u4 u5 u6 u7) :=
  ⟨rfl, ⟨_, _, hr.offT (set8_only _ _ _ _ _ _ _ _ _ _) hg hz (by decide)⟩, ho.new (set8_only _ _ _ _ _ _ _ _ _ _) hb⟩
theorem GxO.mk {g b6 c : Nat} {n : Int} {r : List UInt8} {x : Ex} {A : Option Addr} {w W : World} {cs : Array Value} (hx : ExS (fun b => b6 < b) W 6 A c x) (hr : RdR W g r 0) (ho : Only g w W) (hz : W.heap[b6]? = some (.cells cs 27 (0, 0))) (hb : w.heap.size ≤ b6) (hg : g ≠ b6) (u0 u1 u2 u3 u4 u5 u6 u7 : Value) :
    GxO g (x, n, r) w (.returned (.tuple #[agX x.op A x.kids.length c x.name x.val, .int .i64 0])) (set8 W b6 u0 u1 u2 u3 u4 u5 u6 u7) := by
  have h8 := set8_only W b6 u0 u1 u2 u3 u4 u5 u6 u7
  exact ⟨A, c, rfl, hx.move (fun b hb2 hl => ⟨h8.block b hl (by intro e; injection e with e; omega), by omega⟩) h8.size, hr.offT h8 hg hz (by decide), ho.new h8 hb⟩
/-- 5.3, behind an error, too -/
def getXE (rest : List UInt8) (e : Int) : Except Int (Ex × Int × List UInt8) := if e = 0 then getX 6 24 rest else .error e

set_option maxHeartbeats 4000000 in
theorem eGet_walk (g : Nat) (rest : List UInt8) (e0 : Int) (X : Except Int (Ex × Int × List UInt8)) (hX : ∀ er, X = .error er → er ≠ 0) (w : World) (hr : RdR w g rest e0)
    (hq : ∀ s W, g ≠ s → RdR W g rest e0 → SzB W s (24 - 24) → Calls Tryz.prog 44 #[.pointer (some ⟨g, 0, none⟩), .pointer (some ⟨s, 0, none⟩), .int .i64 1] W (RpP g s 6 X W)) :
    Calls Tryz.prog 14 #[.pointer (some ⟨g, 0, none⟩)] w (GxP g X w) := by
  obtain ⟨A, c, hbt, -, -, -, hc0, hc1, hf, hgl⟩ := hr.open
  have hsf := fun (w : World) (a : Addr) (m : Mode) (b : Nat) => run_store Tryz.prog w a (.float .f64 b) m rfl
  have h1 := alloc1 w (.cells z8 27)
  have h2 := alloc1 (w.alloc (.cells z8 27)) (.cells #[.slice A rest.length c, .int .i64 e0] 83)
  have h3 := alloc1 ((w.alloc (.cells z8 27)).alloc (.cells #[.slice A rest.length c, .int .i64 e0] 83)) (.cells #[.int .i64 0] 87)
  have hz1 := heap_alloc_new w (.cells z8 27)
  have hz3 : SzB (((w.alloc (.cells z8 27)).alloc (.cells #[.slice A rest.length c, .int .i64 e0] 83)).alloc (.cells #[.int .i64 0] 87)) (w.heap.size + 2) (24 - 24) := by
    have h := heap_alloc_new ((w.alloc (.cells z8 27)).alloc (.cells #[.slice A rest.length c, .int .i64 e0] 83)) (.cells #[.int .i64 0] 87)
    rw [World.size_alloc, World.size_alloc] at h
    exact h
  have hcp := RdR.copy (W := w.alloc (.cells z8 27)) (e := e0) (Bt.below hbt h1 (Nat.le_refl _)) (w.heap.size + 1) (by simp)
  have hcall := hq (w.heap.size + 2) _ (by omega) (((hr.below h1).below h2).below h3) hz3
  have HZ1 := Lib.hid ((h3.block w.heap.size (by simp; omega)).trans ((h2.block w.heap.size (by simp)).trans hz1))
  have HCP := Lib.hid (hcp.below h3)
  obtain ⟨csg, hgc, -⟩ := (((hr.below h1).below h2).below h3).cells
  have HGC := Lib.hid hgc
  have HSC := Lib.hid hz3
  have HC := Lib.hid hcall
  have HG := Lib.hid hgl
  have HB := Lib.hid (h1.trans ((h2.mono (by simp)).trans (h3.mono (by simp; omega))))
  have hHX := Lib.hid hX
  have hgb : g ≠ w.heap.size := by omega
  have hgp : g ≠ w.heap.size + 1 := by omega
  clear hgc hcall hq hr hbt h1 h2 h3 hz1 hz3 hcp hX
  have hnil : ∀ W : World, True := fun _ => trivial
  go_enter Tryz.func14, Tryz.ntmps14
  rcases X with er | y
  · have hne := hHX.out er rfl
    have herb : (er != 0) = true := by simpa using hne
    have HCE := Lib.hid (show Calls _ _ _ _ (RpE g (w.heap.size + 2) er _) from HC.out)
    clear HC hHX hne
    go_wp2_with fail
    unfold z8 at HCE
    refine HCE.out.mono ?_
    rintro _ wA ⟨rfl, ⟨r', e', hrA⟩, htA⟩
    have hz := (htA.block w.heap.size (by simp; omega) hgb.symm (by omega)).trans HZ1.out
    have hcpA : RdR wA (w.heap.size + 1) rest e0 := HCP.out.keep htA.size (htA.block _ HCP.out.lt hgp.symm (by omega)) fun k cs fr hk => htA.block k (Array.getElem?_eq_some_iff.1 hk).1 (other_block hk HGC.out (by decide)) (other_block hk HSC.out (by decide))
    have hz2 := ((alloc1 wA (.cells #[.int .i64 0, .slice none 0 0, .string ⟨#[]⟩, .int .i64 0, .int .i64 0, .bool false, .string ⟨#[]⟩, .float .f64 0] 27)).block w.heap.size (Array.getElem?_eq_some_iff.1 hz).1).trans hz
    have hon : Only g w wA := ⟨htA.os.trans HB.out.os, htA.tape.trans HB.out.tape, htA.output.trans HB.out.output, Nat.le_trans HB.out.size htA.size, fun m hm h1 => (htA.block m (by simp; omega) (fun e => h1 (by rw [e])) (by omega)).trans (HB.out.block m hm)⟩
    have hg5 : g ≠ wA.heap.size := Nat.ne_of_lt hrA.lt
    have HZ := Lib.hid hz2
    have HRA := Lib.hid (hrA.below (alloc1 wA (.cells #[.int .i64 0, .slice none 0 0, .string ⟨#[]⟩, .int .i64 0, .int .i64 0, .bool false, .string ⟨#[]⟩, .float .f64 0] 27)))
    have HCA := Lib.hid (hcpA.below (alloc1 wA (.cells #[.int .i64 0, .slice none 0 0, .string ⟨#[]⟩, .int .i64 0, .int .i64 0, .bool false, .string ⟨#[]⟩, .float .f64 0] 27)))
    have HON := Lib.hid (hon.below (alloc1 wA (.cells #[.int .i64 0, .slice none 0 0, .string ⟨#[]⟩, .int .i64 0, .int .i64 0, .bool false, .string ⟨#[]⟩, .float .f64 0] 27)))
    have HNB := Lib.hid (heap_alloc_new wA (.cells #[.int .i64 0, .slice none 0 0, .string ⟨#[]⟩, .int .i64 0, .int .i64 0, .bool false, .string ⟨#[]⟩, .float .f64 0] 27))
    clear hrA htA hz hcpA hz2 hon HCE hc0 hc1 hf hgl
    go_upto_region 5 with fail
    generalize wA.alloc (.cells #[.int .i64 0, .slice none 0 0, .string ⟨#[]⟩, .int .i64 0, .int .i64 0, .bool false, .string ⟨#[]⟩, .float .f64 0] 27) = wB at *
    generalize wA.heap.size = b5 at *
    by_cases he' : e' = 0
    · subst he'
      go_wp2_with fail
      refine (Err_any g r' 0 wB HRA.out).mono ?_
      rintro _ w' ⟨rfl, rfl⟩
      obtain ⟨A2, c2, hbt2, -, -, -, d0, d1, -, -⟩ := HCA.out.open
      obtain ⟨A3, c3, -, -, -, -, g0, g1, gf, gl⟩ := HRA.out.open
      have HBK := Lib.hid (HRA.out.back hbt2 (e1 := e0))
      have ho2 : Only g wB ((wB.setCell ⟨g, 0, none⟩ (.slice A2 rest.length c2)).setCell ⟨g, 1, none⟩ (.int .i64 e0)) := ((Only.refl g wB).set _ _).set _ _
      have HO2 := Lib.hid (HON.out.trans ho2)
      have HZB := Lib.hid ((ho2.block w.heap.size (Array.getElem?_eq_some_iff.1 HZ.out).1 (by intro e; injection e with e; exact hgb e.symm)).trans HZ.out)
      have HNB2 := Lib.hid ((ho2.block b5 (Array.getElem?_eq_some_iff.1 HNB.out).1 (by intro e; injection e with e; exact hg5 e.symm)).trans HNB.out)
      clear hbt2 ho2
      go_upto_region 7 with fail
      generalize (wB.setCell ⟨g, 0, none⟩ (.slice A2 rest.length c2)).setCell ⟨g, 1, none⟩ (.int .i64 e0) = wC at *
      clear d0 d1 g0 g1 gf gl
      have v0 := (heap_at (HZB.out) 0).trans (rfl : _ = some (Value.int .i64 0))
      have v1 := (heap_at (HZB.out) 1).trans (rfl : _ = some (Value.slice none 0 0))
      have v2 := (heap_at (HZB.out) 2).trans (rfl : _ = some (Value.string ⟨#[]⟩))
      have v3 := (heap_at (HZB.out) 3).trans (rfl : _ = some (Value.int .i64 0))
      have v4 := (heap_at (HZB.out) 4).trans (rfl : _ = some (Value.int .i64 0))
      have v5 := (heap_at (HZB.out) 5).trans (rfl : _ = some (Value.bool false))
      have v6 := (heap_at (HZB.out) 6).trans (rfl : _ = some (Value.string ⟨#[]⟩))
      have v7 := (heap_at (HZB.out) 7).trans (rfl : _ = some (Value.float .f64 0))
      have x0 := (heap_at (HNB2.out) 0).trans (rfl : _ = some (Value.int .i64 0))
      have x1 := (heap_at (HNB2.out) 1).trans (rfl : _ = some (Value.slice none 0 0))
      have x2 := (heap_at (HNB2.out) 2).trans (rfl : _ = some (Value.string ⟨#[]⟩))
      have x3 := (heap_at (HNB2.out) 3).trans (rfl : _ = some (Value.int .i64 0))
      have x4 := (heap_at (HNB2.out) 4).trans (rfl : _ = some (Value.int .i64 0))
      have x5 := (heap_at (HNB2.out) 5).trans (rfl : _ = some (Value.bool false))
      have x6 := (heap_at (HNB2.out) 6).trans (rfl : _ = some (Value.string ⟨#[]⟩))
      have x7 := (heap_at (HNB2.out) 7).trans (rfl : _ = some (Value.float .f64 0))
      have vf := heap_free (HZB.out)
      have vl : w.heap.size < wC.heap.size := (Array.getElem?_eq_some_iff.1 (HZB.out)).1
      go_wp2
      exact bodyPost_ret (v := .tuple #[agZ, .int .i64 er]) (by simp [results, Tryz.results14, go_sem, v0, v1, v2, v3, v4, v5, v6, v7, vl]) rfl (GxE.mk HBK.out HO2.out HZB.out (Nat.le_refl _) hgb _ _ _ _ _ _ _ _)
    · have heb : (e' == 0) = false := by simpa using he'
      go_wp2_with fail
      refine (Err_any g r' e' wB HRA.out).mono ?_
      rintro _ w' ⟨rfl, rfl⟩
      clear he'
      have v0 := (heap_at (HZ.out) 0).trans (rfl : _ = some (Value.int .i64 0))
      have v1 := (heap_at (HZ.out) 1).trans (rfl : _ = some (Value.slice none 0 0))
      have v2 := (heap_at (HZ.out) 2).trans (rfl : _ = some (Value.string ⟨#[]⟩))
      have v3 := (heap_at (HZ.out) 3).trans (rfl : _ = some (Value.int .i64 0))
      have v4 := (heap_at (HZ.out) 4).trans (rfl : _ = some (Value.int .i64 0))
      have v5 := (heap_at (HZ.out) 5).trans (rfl : _ = some (Value.bool false))
      have v6 := (heap_at (HZ.out) 6).trans (rfl : _ = some (Value.string ⟨#[]⟩))
      have v7 := (heap_at (HZ.out) 7).trans (rfl : _ = some (Value.float .f64 0))
      have x0 := (heap_at (HNB.out) 0).trans (rfl : _ = some (Value.int .i64 0))
      have x1 := (heap_at (HNB.out) 1).trans (rfl : _ = some (Value.slice none 0 0))
      have x2 := (heap_at (HNB.out) 2).trans (rfl : _ = some (Value.string ⟨#[]⟩))
      have x3 := (heap_at (HNB.out) 3).trans (rfl : _ = some (Value.int .i64 0))
      have x4 := (heap_at (HNB.out) 4).trans (rfl : _ = some (Value.int .i64 0))
      have x5 := (heap_at (HNB.out) 5).trans (rfl : _ = some (Value.bool false))
      have x6 := (heap_at (HNB.out) 6).trans (rfl : _ = some (Value.string ⟨#[]⟩))
      have x7 := (heap_at (HNB.out) 7).trans (rfl : _ = some (Value.float .f64 0))
      have vf := heap_free (HZ.out)
      have vl : w.heap.size < wB.heap.size := (Array.getElem?_eq_some_iff.1 (HZ.out)).1
      go_wp2
      exact bodyPost_ret (v := .tuple #[agZ, .int .i64 er]) (by simp [results, Tryz.results14, go_sem, v0, v1, v2, v3, v4, v5, v6, v7, vl]) rfl (GxE.mk HRA.out HON.out HZ.out (Nat.le_refl _) hgb _ _ _ _ _ _ _ _)
  · obtain ⟨x, n', r'⟩ := y
    have h00 : ((0 : Int) != 0) = false := rfl
    have HCE := Lib.hid (show Calls _ _ _ _ (RpO g (w.heap.size + 2) 6 (x, n', r') _) from HC.out)
    clear HC hHX
    go_wp2_with fail
    unfold z8 at HCE
    refine HCE.out.mono ?_
    rintro _ wA ⟨A', c', rfl, hex, hrA, -, htA⟩
    have hz := (htA.block w.heap.size (by simp; omega) hgb.symm (by omega)).trans HZ1.out
    have hz2 := ((alloc1 wA (.cells #[.int .i64 x.op, .slice A' x.kids.length c', .string x.name, .int .i64 x.val.k, .int .i64 x.val.i, .bool x.val.b, .string x.val.s, .float .f64 x.val.n] 27)).block w.heap.size (Array.getElem?_eq_some_iff.1 hz).1).trans hz
    have hon : Only g w wA := ⟨htA.os.trans HB.out.os, htA.tape.trans HB.out.tape, htA.output.trans HB.out.output, Nat.le_trans HB.out.size htA.size, fun m hm h1 => (htA.block m (by simp; omega) (fun e => h1 (by rw [e])) (by omega)).trans (HB.out.block m hm)⟩
    have hex2 : ExS (fun b => w.heap.size < b) (wA.alloc (.cells #[.int .i64 x.op, .slice A' x.kids.length c', .string x.name, .int .i64 x.val.k, .int .i64 x.val.i, .bool x.val.b, .string x.val.s, .float .f64 x.val.n] 27)) 6 A' c' x := hex.move (fun b hb hl => ⟨(alloc1 wA (.cells #[.int .i64 x.op, .slice A' x.kids.length c', .string x.name, .int .i64 x.val.k, .int .i64 x.val.i, .bool x.val.b, .string x.val.s, .float .f64 x.val.n] 27)).block b hl, by simp at hb; omega⟩) (alloc1 wA (.cells #[.int .i64 x.op, .slice A' x.kids.length c', .string x.name, .int .i64 x.val.k, .int .i64 x.val.i, .bool x.val.b, .string x.val.s, .float .f64 x.val.n] 27)).size
    have hg5 : g ≠ wA.heap.size := Nat.ne_of_lt hrA.lt
    have HZ := Lib.hid hz2
    have HEX := Lib.hid hex2
    have HRA := Lib.hid (hrA.below (alloc1 wA (.cells #[.int .i64 x.op, .slice A' x.kids.length c', .string x.name, .int .i64 x.val.k, .int .i64 x.val.i, .bool x.val.b, .string x.val.s, .float .f64 x.val.n] 27)))
    have HON := Lib.hid (hon.below (alloc1 wA (.cells #[.int .i64 x.op, .slice A' x.kids.length c', .string x.name, .int .i64 x.val.k, .int .i64 x.val.i, .bool x.val.b, .string x.val.s, .float .f64 x.val.n] 27)))
    have HNB := Lib.hid (heap_alloc_new wA (.cells #[.int .i64 x.op, .slice A' x.kids.length c', .string x.name, .int .i64 x.val.k, .int .i64 x.val.i, .bool x.val.b, .string x.val.s, .float .f64 x.val.n] 27))
    clear hrA htA hz hz2 hon HCE hc0 hc1 hf hgl hex hex2
    go_upto_region 5 with fail
    generalize wA.alloc (.cells #[.int .i64 x.op, .slice A' x.kids.length c', .string x.name, .int .i64 x.val.k, .int .i64 x.val.i, .bool x.val.b, .string x.val.s, .float .f64 x.val.n] 27) = wB at *
    generalize wA.heap.size = b5 at *
    have v0 := (heap_at (HZ.out) 0).trans (rfl : _ = some (Value.int .i64 0))
    have v1 := (heap_at (HZ.out) 1).trans (rfl : _ = some (Value.slice none 0 0))
    have v2 := (heap_at (HZ.out) 2).trans (rfl : _ = some (Value.string ⟨#[]⟩))
    have v3 := (heap_at (HZ.out) 3).trans (rfl : _ = some (Value.int .i64 0))
    have v4 := (heap_at (HZ.out) 4).trans (rfl : _ = some (Value.int .i64 0))
    have v5 := (heap_at (HZ.out) 5).trans (rfl : _ = some (Value.bool false))
    have v6 := (heap_at (HZ.out) 6).trans (rfl : _ = some (Value.string ⟨#[]⟩))
    have v7 := (heap_at (HZ.out) 7).trans (rfl : _ = some (Value.float .f64 0))
    have x0 := (heap_at (HNB.out) 0).trans (rfl : _ = some (Value.int .i64 x.op))
    have x1 := (heap_at (HNB.out) 1).trans (rfl : _ = some (Value.slice A' x.kids.length c'))
    have x2 := (heap_at (HNB.out) 2).trans (rfl : _ = some (Value.string x.name))
    have x3 := (heap_at (HNB.out) 3).trans (rfl : _ = some (Value.int .i64 x.val.k))
    have x4 := (heap_at (HNB.out) 4).trans (rfl : _ = some (Value.int .i64 x.val.i))
    have x5 := (heap_at (HNB.out) 5).trans (rfl : _ = some (Value.bool x.val.b))
    have x6 := (heap_at (HNB.out) 6).trans (rfl : _ = some (Value.string x.val.s))
    have x7 := (heap_at (HNB.out) 7).trans (rfl : _ = some (Value.float .f64 x.val.n))
    have vf := heap_free (HZ.out)
    have vl : w.heap.size < wB.heap.size := (Array.getElem?_eq_some_iff.1 (HZ.out)).1
    go_wp2
    exact bodyPost_ret (v := .tuple #[agX x.op A' x.kids.length c' x.name x.val, .int .i64 0]) (by simp [results, Tryz.results14, go_sem, v0, v1, v2, v3, v4, v5, v6, v7, vl]) rfl (GxO.mk (x := x) HEX.out HRA.out HON.out HZ.out (Nat.le_refl _) hgb _ _ _ _ _ _ _ _)
/-- Get of the program -/
theorem eGet_any (g : Nat) (rest : List UInt8) (e : Int) (w : World) (hr : RdR w g rest e) (hlen : rest.length ≤ 1000000000000) : Calls Tryz.prog 14 #[.pointer (some ⟨g, 0, none⟩)] w (GxP g (getXE rest e) w) := by
  by_cases he : e = 0
  · subst he
    rw [show getXE rest 0 = getX 6 24 rest from if_pos rfl]
    exact eGet_walk g rest 0 _ (fun er h => getX_er 6 24 rest er h) w hr fun s W hgs h1 h2 => eReadParts_any g s hgs 6 24 1 rest W (by omega) (by decide) (by decide) (by decide) h1 h2 hlen
  · rw [show getXE rest e = .error e from if_neg he]
    exact eGet_walk g rest e (.error e) (fun er h => by injection h with h; exact h ▸ he) w hr fun s W hgs h1 h2 => readParts_late g s hgs e he rest W h1 h2 hlen
end Go.Proofs.YtkhpgejammgolaaGreat

/- Layer 5: ExprBack. -/
namespace Go.Proofs.YtkhpgejammgolaaGreat
open Go.RowKit
set_option linter.unusedVariables false
set_option linter.unusedSimpArgs false
set_option maxRecDepth 20000

theorem size_list (s : ByteArray) : s.data.toList.length = s.size := by cases s; simp [ByteArray.size]
theorem txt_small {e : Ex} (h : smallX e = true) (hs : shX 6 e) : txtX 6 e := by
  obtain ⟨h1, h2⟩ := (smallX_iff e).1 h
  exact txtX_of 6 e h1 (by omega) hs
end Go.Proofs.YtkhpgejammgolaaGreat

/- Layer 5: has an expression a long text, by the law. -/
namespace Go.Proofs.YtkhpgejammgolaaGreat
open Go.RowKit
set_option linter.unusedVariables false
set_option linter.unusedSimpArgs false
set_option maxRecDepth 20000

def longX : Nat → Ex → Bool
  | 0, _ => false
  | d + 1, e => (decide (200 < e.name.size) || decide (200 < e.val.s.size)) || e.kids.any fun k => longX d k
theorem shX_long : ∀ d e, longX d e = false → shX d e
  | 0, _, _ => trivial
  | d + 1, e, h => by
    have hu : ((decide (200 < e.name.size) || decide (200 < e.val.s.size)) || e.kids.any fun k => longX d k) = false := h
    simp only [Bool.or_eq_false_iff, decide_eq_false_iff_not] at hu
    obtain ⟨⟨h1, h2⟩, h3⟩ := hu
    refine ⟨by rw [size_list]; omega, by rw [size_list]; omega, fun k hk => shX_long d k ?_⟩
    rcases h4 : longX d k with _ | _
    · rfl
    · have h5 := List.any_eq_true.2 ⟨k, hk, h4⟩
      rw [h3] at h5
      cases h5
set_option maxHeartbeats 1000000 in
theorem long_any : ∀ (D d : Nat) (e : Ex) (A : Option Addr) (c : Nat) (w : World), ExK w D A c e → deepX d e →
    Calls Tryz.prog 12 #[agX e.op A e.kids.length c e.name e.val] w (VMk (.bool (longX d e)) w)
  | 0, _, _, _, _, _, h, _ => False.elim h
  | D + 1, 0, _, _, _, _, _, h => False.elim h
  | D + 1, d + 1, e, A, c, w, hx, hdp => by
    obtain ⟨h2, h3, h4, h5⟩ := hx
    have ih := long_any D
    unfold maxLen at h3
    have hlen : e.kids.length ≤ 9223372036854775807 := by omega
    have hu : longX (d + 1) e = ((decide (200 < e.name.size) || decide (200 < e.val.s.size)) || e.kids.any fun k => longX d k) := rfl
    rw [hu]
    have HIH := Lib.hid (fun (j : Nat) (hj : j < e.kids.length) A' c' W (hx : ExK w D A' c' e.kids[j]) (hB : Below w.heap.size w W) => ih d e.kids[j] A' c' W (hx.below hB (Nat.le_refl _)) (hdp _ (List.getElem_mem hj)))
    have H5 := Lib.hid h5
    clear hu ih h5 hdp h2 h3 h4
    generalize e.kids = ks at *
    generalize e.op = eop at *
    generalize e.name = enm at *
    generalize e.val = ev at *
    have hbx := Lib.hid (Kid_new w eop A ks.length c enm ev)
    by_cases h1 : 200 < enm.size
    · rw [decide_eq_true h1, Bool.true_or, Bool.true_or]
      have h1I : (200 : Int) < (enm.size : Int) := by omega
      clear h1
      go_enter Tryz.func12, Tryz.ntmps12
      go_wp2
      go_ret
      exact ⟨rfl, (Below.refl _ _).alloc (Nat.le_refl _) _⟩
    by_cases h2 : 200 < ev.s.size
    · rw [decide_eq_false h1, decide_eq_true h2, Bool.false_or, Bool.true_or]
      have h1I : ¬ (200 : Int) < (enm.size : Int) := by omega
      have h2I : (200 : Int) < (ev.s.size : Int) := by omega
      clear h1 h2
      go_enter Tryz.func12, Tryz.ntmps12
      go_wp2
      go_ret
      exact ⟨rfl, (Below.refl _ _).alloc (Nat.le_refl _) _⟩
    · rw [decide_eq_false h1, decide_eq_false h2, Bool.false_or, Bool.false_or]
      have h1I : ¬ (200 : Int) < (enm.size : Int) := by omega
      have h2I : ¬ (200 : Int) < (ev.s.size : Int) := by omega
      clear h1 h2
      have hno : ∀ k (hk : k < ks.length), longX d ks[k] = true → (ks.any fun k => longX d k) = true := fun k hk h => List.any_eq_true.2 ⟨_, List.getElem_mem hk, h⟩
      have hall : (∀ (j : Nat) (hj : j < ks.length), longX d ks[j] = false) → (ks.any fun k => longX d k) = false := fun h => by
        rw [← Bool.not_eq_true, List.any_eq_true]
        rintro ⟨x, hx, hu⟩
        obtain ⟨j, hj, rfl⟩ := List.getElem_of_mem hx
        rw [h j hj] at hu
        cases hu
      have HNO := Lib.hid hno
      have HALL := Lib.hid hall
      clear hno hall
      go_enter Tryz.func12, Tryz.ntmps12
      go_wp2
      go_loopw [3] (fun i wr => ∃ k : Nat, k ≤ ks.length ∧ i = .int .i64 k ∧ (∀ (j : Nat) (hj : j < ks.length), j < k → longX d ks[j] = false) ∧ Below w.heap.size w wr ∧ wr.cell? ⟨w.heap.size, 1, none⟩ = some (.slice A ks.length c)) (fun i _ => ks.length - (intOf i).toNat)
      case atStart => exact ⟨0, Nat.zero_le _, rfl, fun j hj h => absurd h (Nat.not_lt_zero _), (Below.refl _ _).alloc (Nat.le_refl _) _, hbx.out.2.1⟩
      case round =>
        obtain ⟨k, hk, rfl, hdone, hb, hc⟩ := hrel
        by_cases hlt : k < ks.length
        · obtain ⟨ad, A', c', rfl, hbl, hkid, hsub⟩ := H5.out k hlt
          obtain ⟨q0, q1, q2, q3, q4, q5, q6, q7⟩ := hkid.below hb (by rw [block_add]; exact hbl)
          have hcall := HIH.out k hlt A' c' wr hsub hb
          have hnext : longX d ks[k] = false → ∀ (j : Nat) (hj : j < ks.length), j < k + 1 → longX d ks[j] = false := fun h j hj hjk => by
            by_cases e : j < k
            · exact hdone j hj e
            · obtain rfl : j = k := by omega
              exact h
          have hyes := HNO.out k hlt
          generalize longX d ks[k] = u at hcall hnext hyes
          generalize ks[k].op = ko at q0 hcall
          generalize ks[k].name = kn at q2 hcall
          generalize ks[k].val = ky at q3 q4 q5 q6 q7 hcall
          generalize ks[k].kids.length = kl at q1 hcall
          have HC := Lib.hid hcall
          have hcl := World.block_lt_of_cell? wr _ hc
          have hltI : (k : Int) < (ks.length : Int) := by omega
          rcases u with _ | _
          · have HN := Lib.hid (hnext rfl)
            clear hcall hkid hsub hnext hyes hdone
            go_wp2_with (go_at_call 12; refine HC.out.mono ?_; rintro e w2 ⟨rfl, hb2⟩)
            go_roundw
            case rel => exact ⟨k + 1, by omega, by go_num, HN.out, hb.trans (hb2.mono hb.size), keepc hb2 hcl hc⟩
            case measure => simp [intOf]; omega
          · have HY := Lib.hid (hyes rfl)
            clear hcall hkid hsub hnext hyes hdone
            go_wp2_with (go_at_call 12; refine HC.out.mono ?_; rintro e w2 ⟨rfl, hb2⟩)
            go_ret
            exact ⟨ret_bool HY.out.symm, hb.trans (hb2.mono hb.size)⟩
        · have HA := Lib.hid (HALL.out fun j hj => hdone j hj (by omega))
          have hltI : ¬ (k : Int) < (ks.length : Int) := by omega
          clear hdone
          go_wp2
          go_ret
          exact ⟨ret_bool HA.out.symm, hb⟩
end Go.Proofs.YtkhpgejammgolaaGreat

/- Layer 5: a value or the zero one, by the document. -/
namespace Go.Proofs.YtkhpgejammgolaaGreat
open Go.RowKit
set_option linter.unusedVariables false
set_option linter.unusedSimpArgs false
set_option maxRecDepth 20000

/-- the document's reader stays where blocks of bytes, and what is elder than the reader, stay -/
theorem Bq.keep {w w' : World} {g : Nat} {v : Value} {l : List UInt8} (h : Bq g w v l) (hz : w.heap.size ≤ w'.heap.size) (hk : ∀ (k : Nat) (cs : Array Value) (fr : Nat × Nat), w.heap[k]? = some (Obj.cells cs 5 fr) → w'.heap[k]? = w.heap[k]?) (hlow : ∀ k, k < g → w'.heap[k]? = w.heap[k]?) : Bq g w' v l := by
  rcases h with ⟨h1, h2 | h2⟩
  · exact (Bt.keep ⟨h1, h2⟩ hz hk).bq
  · obtain ⟨A, c, hv, hc, hm, hn, hx⟩ := h1
    refine ⟨⟨A, c, hv, hc, hm, hn, fun he => ?_⟩, Or.inr h2⟩
    obtain ⟨ad, ha, hb, hr⟩ := hx he
    have hown : v.ownBlock = some ad.block := by rw [hv, ha]; rfl
    have hl : l ≠ [] := fun e => he (by rw [e]; rfl)
    have hblk := hlow _ (h2 hl _ hown)
    refine ⟨ad, ha, Nat.lt_of_lt_of_le hb hz, fun j u hu => ?_⟩
    have hb2 : (ad.add j).block = ad.block := block_add ad j
    exact (World.cell?_of_block (w := w) (w' := w') (a := ad.add j) (by rw [hb2]; exact hblk)).trans (hr j u hu)
theorem Bq.elder {w : World} {g N : Nat} {v : Value} {l : List UInt8} (h : Bq g w v l) (hN : g ≤ N) : Bq N w v l := ⟨h.1, h.2.imp id fun h2 hl k hk => Nat.lt_of_lt_of_le (h2 hl k hk) hN⟩
theorem RfG.keep {w w' : World} {g : Nat} {bs : List UInt8} {i : Nat} {e : Int} (h : RfG w g bs i e) (hz : w.heap.size ≤ w'.heap.size) (hg : w'.heap[g]? = w.heap[g]?) (hk : ∀ (k : Nat) (cs : Array Value) (fr : Nat × Nat), w.heap[k]? = some (Obj.cells cs 5 fr) → w'.heap[k]? = w.heap[k]?) (hlow : ∀ k, k < g → w'.heap[k]? = w.heap[k]?) : RfG w' g bs i e := by
  obtain ⟨bv, hh, hb, h1, h2⟩ := h
  exact ⟨bv, hg.trans hh, hb.keep hz hk hlow, h1, h2⟩
theorem RfS.keep {w w' : World} {g : Nat} {rest : List UInt8} {e : Int} (h : RfS w g rest e) (hz : w.heap.size ≤ w'.heap.size) (hg : w'.heap[g]? = w.heap[g]?) (hk : ∀ (k : Nat) (cs : Array Value) (fr : Nat × Nat), w.heap[k]? = some (Obj.cells cs 5 fr) → w'.heap[k]? = w.heap[k]?) (hlow : ∀ k, k < g → w'.heap[k]? = w.heap[k]?) : RfS w' g rest e := by
  obtain ⟨bs, i, h1, h2⟩ := h
  exact ⟨bs, i, h1.keep hz hg hk hlow, h2⟩
theorem RfS.offT {w w' : World} {N g : Nat} {rest : List UInt8} {err : Int} {cs : Array Value} {t : TypeId} {fr : Nat × Nat} (h : RfS w g rest err) (ho : Only N w w') (hlt : g < N) (hN : w.heap[N]? = some (.cells cs t fr)) (ht : t ≠ 5) : RfS w' g rest err := by
  have hl := h.lt
  refine h.keep ho.size (ho.block g hl (by intro e; injection e with e; omega)) (fun k cs2 fr2 hk => ho.block k (Array.getElem?_eq_some_iff.1 hk).1 (by intro e; injection e with e; exact other_block hk hN (fun e => ht e.symm) e)) fun k hk => ho.block k (by omega) (by intro e; injection e with e; omega)
theorem RfG.offT {w w' : World} {N g : Nat} {bs : List UInt8} {i : Nat} {err : Int} {cs : Array Value} {t : TypeId} {fr : Nat × Nat} (h : RfG w g bs i err) (ho : Only N w w') (hlt : g < N) (hN : w.heap[N]? = some (.cells cs t fr)) (ht : t ≠ 5) : RfG w' g bs i err := by
  have hl := h.lt
  refine h.keep ho.size (ho.block g hl (by intro e; injection e with e; omega)) (fun k cs2 fr2 hk => ho.block k (Array.getElem?_eq_some_iff.1 hk).1 (by intro e; injection e with e; exact other_block hk hN (fun e => ht e.symm) e)) fun k hk => ho.block k (by omega) (by intro e; injection e with e; omega)
/-- a copy of the reader -/
theorem RfG.copy {W : World} {g : Nat} {bs : List UInt8} {i : Nat} {e : Int} {A : Option Addr} {n c : Nat} (h : RfG W g bs i e) (hv : W.cell? ⟨g, 0, none⟩ = some (.slice A n c)) (a : Nat) (ha : a = W.heap.size) : RfG (W.alloc (.cells #[.slice A n c, .int .i64 i, .int .i64 e] 35)) a bs i e := by
  subst ha
  have hl := h.lt
  obtain ⟨bv, hh, hb, h1, h2⟩ := h
  have e1 := (heap_at hh 0).symm.trans hv
  injection e1 with e1
  subst e1
  exact ⟨_, heap_alloc_new _ _, (hb.below (alloc1 _ _) (Nat.le_refl _)).elder (Nat.le_of_lt hl), h1, h2⟩
theorem RfG.s {w : World} {g : Nat} {bs : List UInt8} {i : Nat} {e : Int} (h : RfG w g bs i e) : RfS w g (bs.drop i) e := ⟨bs, i, h, rfl⟩

theorem Only.of_below {g : Nat} {w w' : World} (h : Below w.heap.size w w') : Only g w w' := ⟨h.os, h.tape, h.output, h.size, fun k hk _ => h.block k hk⟩
set_option maxHeartbeats 4000000 in
theorem rZero_yes (g : Nat) (bs : List UInt8) (i : Nat) (n : Nat) (r1 : List UInt8) (hst : stepF 8 alInt (bs.drop i) 0 = (n, r1, 0)) (hz : wrap64 (n : Int) = 0) (w : World) (hr : RfG w g bs i 0) :
    Calls Tryz.prog 97 #[.pointer (some ⟨g, 0, none⟩)] w (GetR g vZero 0 r1 0 w) := by
  obtain ⟨A, c, -, -, -, -, -, c0, c1, c2, cf, cl, -⟩ := hr.open
  have hsf := fun (w : World) (a : Addr) (m : Mode) (b : Nat) => run_store Tryz.prog w a (.float .f64 b) m rfl
  have hw1 := alloc1 w (.cells #[.int .i64 0, .int .i64 0, .bool false, .string ⟨#[]⟩, .float .f64 0] 25)
  have hb0 : Bh (w.alloc (.cells #[.int .i64 0, .int .i64 0, .bool false, .string ⟨#[]⟩, .float .f64 0] 25)) w.heap.size vZero := heap_alloc_new w _
  have hne : w.heap.size ≠ g := by omega
  have hr1 := hr.below hw1
  have d0 := (hw1.cell (p := ⟨g, 0, none⟩) cl).trans c0
  have d1 := (hw1.cell (p := ⟨g, 1, none⟩) cl).trans c1
  have d2 := (hw1.cell (p := ⟨g, 2, none⟩) cl).trans c2
  have hs1 : (w.alloc (.cells #[.int .i64 0, .int .i64 0, .bool false, .string ⟨#[]⟩, .float .f64 0] 25)).heap.size = w.heap.size + 1 := by simp
  have q1 : ∀ W, RfG W (w.heap.size + 1) bs i 0 → Calls Tryz.prog 95 #[.pointer (some ⟨w.heap.size + 1, 0, none⟩)] W (DidG (w.heap.size + 1) bs (.int .i64 0) r1 0 W) := fun W h => by
    have h := rfInt_at (w.heap.size + 1) bs i 0 W h
    rw [hst] at h
    dsimp only at h
    rw [hz] at h; exact h
  have Q1 := Lib.hid q1
  clear q1
  clear hst hz
  have HG := Lib.hid cl
  have hga : g < w.heap.size + 1 := by omega
  clear c0 c1 c2 cf cl hr
  go_enter Tryz.func97, Tryz.ntmps97
  go_upto_region 1 with fail
  generalize w.alloc (.cells #[.int .i64 0, .int .i64 0, .bool false, .string ⟨#[]⟩, .float .f64 0] 25) = w1 at *
  go_region
  have hcp : RfG (w1.alloc (.cells #[.slice A bs.length c, .int .i64 i, .int .i64 0] 35)).drew (w.heap.size + 1) bs i 0 := hr1.copy d0 (w.heap.size + 1) hs1.symm
  have hb2 : Below w1.heap.size w1 (w1.alloc (.cells #[.slice A bs.length c, .int .i64 i, .int .i64 0] 35)).drew := (alloc1 w1 _).drew
  have HRG := Lib.hid (hr1.below hb2)
  have HBH := Lib.hid (hb0.below hb2)
  have HCP := Lib.hid hcp
  have HW := Lib.hid (bel2 hw1 hb2)
  clear hcp hb2 hr1 hb0 hw1 d0 d1 d2 hs1
  go_upto_region 2 with fail
  generalize (w1.alloc (.cells #[.slice A bs.length c, .int .i64 i, .int .i64 0] 35)).drew = w2 at *
  have hq := Q1.out w2 HCP.out
  go_wp2_with fail
  refine hq.mono ?_
  rintro _ wA ⟨rfl, ⟨i', hra, hdr⟩, hoa⟩
  clear hq
  obtain ⟨bva, hha, -⟩ := HCP.out
  have HGA := Lib.hid (HRG.out.offT hoa hga hha (by decide))
  have HBA := Lib.hid (HBH.out.only hoa (by omega))
  have HOA := Lib.hid (show Below w.heap.size w wA from HW.out.trans (hoa.to_below HW.out.size (by omega)))
  obtain ⟨A2, c2, -, -, -, hi2, -, e0, e1', e2', -, -, -⟩ := hra.open
  clear hoa hha hra
  obtain ⟨A3, c3, -, -, -, -, -, g0, g1, g2, gf, gl, -⟩ := HGA.out.open
  have HR3 := Lib.hid (HGA.out.setAt i' hi2).s
  have ho3 : Only g wA (wA.setCell ⟨g, 1, none⟩ (.int .i64 i')) := (Only.refl _ _).set _ _
  have HB3 := Lib.hid (HBA.out.only ho3 hne)
  have HO3 := Lib.hid ((Only.of_below HOA.out).trans ho3)
  have h00 : ((0 : Int) == 0) = true := rfl
  clear ho3
  go_upto_region 4 with fail
  generalize wA.setCell ⟨g, 1, none⟩ (.int .i64 i') = wB at *
  obtain ⟨x0, x1, x2, x3, x4⟩ := HB3.out.bx
  have xf := HB3.out.free
  have xl := HB3.out.lt
  subst hdr
  go_wp2
  exact bodyPost_ret (v := pairVE vZero 0) (by simp [results, Tryz.results97, go_sem, x0, x1, x2, x3, x4, xl]) rfl (GetR.mk (w := w) rfl HR3.out HO3.out HG.out HB3.out _ _ _ _ _)
set_option maxHeartbeats 4000000 in
theorem rZero_no1 (g : Nat) (bs : List UInt8) (i : Nat) (n : Nat) (r1 : List UInt8) (e1 : Int) (hst : stepF 8 alInt (bs.drop i) 0 = (n, r1, e1)) (hz : wrap64 (n : Int) ≠ 0) (v : Vl) (er : Int) (rest2 : List UInt8) (err : Int) (w : World) (hr : RfG w g bs i 0)
    (hq0 : ∀ W, RfS W g (bs.drop i) 0 → Calls Tryz.prog 155 #[.pointer (some ⟨g, 0, none⟩)] W (GetR g v er rest2 err W)) :
    Calls Tryz.prog 97 #[.pointer (some ⟨g, 0, none⟩)] w (GetR g v er rest2 err w) := by
  obtain ⟨A, c, -, -, -, -, -, c0, c1, c2, cf, cl, -⟩ := hr.open
  have hsf := fun (w : World) (a : Addr) (m : Mode) (b : Nat) => run_store Tryz.prog w a (.float .f64 b) m rfl
  have hw1 := alloc1 w (.cells #[.int .i64 0, .int .i64 0, .bool false, .string ⟨#[]⟩, .float .f64 0] 25)
  have hb0 : Bh (w.alloc (.cells #[.int .i64 0, .int .i64 0, .bool false, .string ⟨#[]⟩, .float .f64 0] 25)) w.heap.size vZero := heap_alloc_new w _
  have hne : w.heap.size ≠ g := by omega
  have hr1 := hr.below hw1
  have d0 := (hw1.cell (p := ⟨g, 0, none⟩) cl).trans c0
  have d1 := (hw1.cell (p := ⟨g, 1, none⟩) cl).trans c1
  have d2 := (hw1.cell (p := ⟨g, 2, none⟩) cl).trans c2
  have hs1 : (w.alloc (.cells #[.int .i64 0, .int .i64 0, .bool false, .string ⟨#[]⟩, .float .f64 0] 25)).heap.size = w.heap.size + 1 := by simp
  have q1 : ∀ W, RfG W (w.heap.size + 1) bs i 0 → Calls Tryz.prog 95 #[.pointer (some ⟨w.heap.size + 1, 0, none⟩)] W (DidG (w.heap.size + 1) bs (.int .i64 (wrap64 (n : Int))) r1 e1 W) := fun W h => by
    have h := rfInt_at (w.heap.size + 1) bs i 0 W h
    rw [hst] at h
    dsimp only at h
    exact h
  have Q1 := Lib.hid q1
  clear q1
  have hzb : (wrap64 (n : Int) == 0) = false := by simpa using hz
  clear hst hz
  have HG := Lib.hid cl
  have hga : g < w.heap.size + 1 := by omega
  clear c0 c1 c2 cf cl hr
  go_enter Tryz.func97, Tryz.ntmps97
  go_upto_region 1 with fail
  generalize w.alloc (.cells #[.int .i64 0, .int .i64 0, .bool false, .string ⟨#[]⟩, .float .f64 0] 25) = w1 at *
  go_region
  have hcp : RfG (w1.alloc (.cells #[.slice A bs.length c, .int .i64 i, .int .i64 0] 35)).drew (w.heap.size + 1) bs i 0 := hr1.copy d0 (w.heap.size + 1) hs1.symm
  have hb2 : Below w1.heap.size w1 (w1.alloc (.cells #[.slice A bs.length c, .int .i64 i, .int .i64 0] 35)).drew := (alloc1 w1 _).drew
  have HRG := Lib.hid (hr1.below hb2)
  have HBH := Lib.hid (hb0.below hb2)
  have HCP := Lib.hid hcp
  have HW := Lib.hid (bel2 hw1 hb2)
  clear hcp hb2 hr1 hb0 hw1 d0 d1 d2 hs1
  go_upto_region 2 with fail
  generalize (w1.alloc (.cells #[.slice A bs.length c, .int .i64 i, .int .i64 0] 35)).drew = w2 at *
  have hq := Q1.out w2 HCP.out
  go_wp2_with fail
  refine hq.mono ?_
  rintro _ wA ⟨rfl, ⟨i', hra, hdr⟩, hoa⟩
  clear hq
  obtain ⟨bva, hha, -⟩ := HCP.out
  have HGA := Lib.hid (HRG.out.offT hoa hga hha (by decide))
  have HBA := Lib.hid (HBH.out.only hoa (by omega))
  have HOA := Lib.hid (show Below w.heap.size w wA from HW.out.trans (hoa.to_below HW.out.size (by omega)))
  obtain ⟨A2, c2, -, -, -, hi2, -, e0, e1', e2', -, -, -⟩ := hra.open
  clear hoa hha hra
  have hq2 := hq0 wA HGA.out.s
  have HQ2 := Lib.hid hq2
  clear hq2 hq0
  go_wp2_with fail
  refine HQ2.out.mono ?_
  rintro _ wB ⟨rfl, hrb, hob⟩
  have HRB := Lib.hid hrb
  have HB3 := Lib.hid (HBA.out.only hob hne)
  have HO3 := Lib.hid ((Only.of_below HOA.out).trans hob)
  obtain ⟨x0, x1, x2, x3, x4⟩ := HB3.out.bx
  have xf := HB3.out.free
  have xl := HB3.out.lt
  clear hrb hob
  go_wp2
  exact bodyPost_ret (v := pairVE v er) (by simp [results, Tryz.results97, go_sem, x0, x1, x2, x3, x4, xl]) rfl (GetR.mk (w := w) rfl HRB.out HO3.out HG.out HB3.out _ _ _ _ _)
set_option maxHeartbeats 4000000 in
theorem rZero_no2 (g : Nat) (bs : List UInt8) (i : Nat) (n : Nat) (r1 : List UInt8) (e1 : Int) (hst : stepF 8 alInt (bs.drop i) 0 = (n, r1, e1)) (hz : wrap64 (n : Int) = 0) (he : e1 ≠ 0) (v : Vl) (er : Int) (rest2 : List UInt8) (err : Int) (w : World) (hr : RfG w g bs i 0)
    (hq0 : ∀ W, RfS W g (bs.drop i) 0 → Calls Tryz.prog 155 #[.pointer (some ⟨g, 0, none⟩)] W (GetR g v er rest2 err W)) :
    Calls Tryz.prog 97 #[.pointer (some ⟨g, 0, none⟩)] w (GetR g v er rest2 err w) := by
  obtain ⟨A, c, -, -, -, -, -, c0, c1, c2, cf, cl, -⟩ := hr.open
  have hsf := fun (w : World) (a : Addr) (m : Mode) (b : Nat) => run_store Tryz.prog w a (.float .f64 b) m rfl
  have hw1 := alloc1 w (.cells #[.int .i64 0, .int .i64 0, .bool false, .string ⟨#[]⟩, .float .f64 0] 25)
  have hb0 : Bh (w.alloc (.cells #[.int .i64 0, .int .i64 0, .bool false, .string ⟨#[]⟩, .float .f64 0] 25)) w.heap.size vZero := heap_alloc_new w _
  have hne : w.heap.size ≠ g := by omega
  have hr1 := hr.below hw1
  have d0 := (hw1.cell (p := ⟨g, 0, none⟩) cl).trans c0
  have d1 := (hw1.cell (p := ⟨g, 1, none⟩) cl).trans c1
  have d2 := (hw1.cell (p := ⟨g, 2, none⟩) cl).trans c2
  have hs1 : (w.alloc (.cells #[.int .i64 0, .int .i64 0, .bool false, .string ⟨#[]⟩, .float .f64 0] 25)).heap.size = w.heap.size + 1 := by simp
  have q1 : ∀ W, RfG W (w.heap.size + 1) bs i 0 → Calls Tryz.prog 95 #[.pointer (some ⟨w.heap.size + 1, 0, none⟩)] W (DidG (w.heap.size + 1) bs (.int .i64 0) r1 e1 W) := fun W h => by
    have h := rfInt_at (w.heap.size + 1) bs i 0 W h
    rw [hst] at h
    dsimp only at h
    rw [hz] at h; exact h
  have Q1 := Lib.hid q1
  clear q1
  have heb : (e1 == 0) = false := by simpa using he
  have h00 : ((0 : Int) == 0) = true := rfl
  clear hst hz he
  have HG := Lib.hid cl
  have hga : g < w.heap.size + 1 := by omega
  clear c0 c1 c2 cf cl hr
  go_enter Tryz.func97, Tryz.ntmps97
  go_upto_region 1 with fail
  generalize w.alloc (.cells #[.int .i64 0, .int .i64 0, .bool false, .string ⟨#[]⟩, .float .f64 0] 25) = w1 at *
  go_region
  have hcp : RfG (w1.alloc (.cells #[.slice A bs.length c, .int .i64 i, .int .i64 0] 35)).drew (w.heap.size + 1) bs i 0 := hr1.copy d0 (w.heap.size + 1) hs1.symm
  have hb2 : Below w1.heap.size w1 (w1.alloc (.cells #[.slice A bs.length c, .int .i64 i, .int .i64 0] 35)).drew := (alloc1 w1 _).drew
  have HRG := Lib.hid (hr1.below hb2)
  have HBH := Lib.hid (hb0.below hb2)
  have HCP := Lib.hid hcp
  have HW := Lib.hid (bel2 hw1 hb2)
  clear hcp hb2 hr1 hb0 hw1 d0 d1 d2 hs1
  go_upto_region 2 with fail
  generalize (w1.alloc (.cells #[.slice A bs.length c, .int .i64 i, .int .i64 0] 35)).drew = w2 at *
  have hq := Q1.out w2 HCP.out
  go_wp2_with fail
  refine hq.mono ?_
  rintro _ wA ⟨rfl, ⟨i', hra, hdr⟩, hoa⟩
  clear hq
  obtain ⟨bva, hha, -⟩ := HCP.out
  have HGA := Lib.hid (HRG.out.offT hoa hga hha (by decide))
  have HBA := Lib.hid (HBH.out.only hoa (by omega))
  have HOA := Lib.hid (show Below w.heap.size w wA from HW.out.trans (hoa.to_below HW.out.size (by omega)))
  obtain ⟨A2, c2, -, -, -, hi2, -, e0, e1', e2', -, -, -⟩ := hra.open
  clear hoa hha hra
  have hq2 := hq0 wA HGA.out.s
  have HQ2 := Lib.hid hq2
  clear hq2 hq0
  go_wp2_with fail
  refine HQ2.out.mono ?_
  rintro _ wB ⟨rfl, hrb, hob⟩
  have HRB := Lib.hid hrb
  have HB3 := Lib.hid (HBA.out.only hob hne)
  have HO3 := Lib.hid ((Only.of_below HOA.out).trans hob)
  obtain ⟨x0, x1, x2, x3, x4⟩ := HB3.out.bx
  have xf := HB3.out.free
  have xl := HB3.out.lt
  clear hrb hob
  go_wp2
  exact bodyPost_ret (v := pairVE v er) (by simp [results, Tryz.results97, go_sem, x0, x1, x2, x3, x4, xl]) rfl (GetR.mk (w := w) rfl HRB.out HO3.out HG.out HB3.out _ _ _ _ _)
/-- what Zero leaves -/
def RvR (g : Nat) (v : Vl) (er : Int) (rest : List UInt8) (w : World) (e : Ending) (w' : World) : Prop := e = .returned (pairVE v er) ∧ (∃ r' e', RfS w' g r' e' ∧ (er = 0 → r' = rest ∧ e' = 0)) ∧ Only g w w'
theorem RvR.of {g : Nat} {q : Vl × List UInt8 × Int} {v : Vl} {er : Int} {rest : List UInt8} {w : World} {e : Ending} {w' : World} (hq : q = (v, rest, er)) (h : RvR g v er rest w e w') : RvR g q.1 q.2.2 q.2.1 w e w' := by
  subst hq
  exact h
theorem GetR.rv {g : Nat} {v : Vl} {er : Int} {rest : List UInt8} {err : Int} {w : World} {e : Ending} {w' : World} (h : GetR g v er rest err w e w') (hok : er = 0 → err = 0) : RvR g v er rest w e w' := ⟨h.1, ⟨_, _, h.2.1, fun h0 => ⟨rfl, hok h0⟩⟩, h.2.2⟩
theorem rZero_any (g : Nat) (rest : List UInt8) (w : World) (hr : RfS w g rest 0) :
    Calls Tryz.prog 97 #[.pointer (some ⟨g, 0, none⟩)] w (RvR g (rvF rest 0).1 (rvF rest 0).2.2 (rvF rest 0).2.1 w) := by
  obtain ⟨bs, i, hr, hd⟩ := hr
  have hq : ∀ W, RfS W g (bs.drop i) 0 → Calls Tryz.prog 155 #[.pointer (some ⟨g, 0, none⟩)] W (GetR g (getV (bs.drop i) 0) (getE (bs.drop i) 0) (readF (bs.drop i) 0).2.1 (readF (bs.drop i) 0).2.2 W) := fun W h => rGet_any g (bs.drop i) 0 W h
  subst hd
  have hok := getE_ok (bs.drop i) 0
  rcases hst : stepF 8 alInt (bs.drop i) 0 with ⟨n, r1, e1⟩
  by_cases h : wrap64 (n : Int) = 0 ∧ e1 = 0
  · obtain ⟨h1, h2⟩ := h
    subst h2
    exact (rZero_yes g bs i n r1 hst h1 w hr).mono fun _ _ h => RvR.of (rv_zero (bs.drop i) 0 n r1 hst h1) (h.rv fun _ => rfl)
  · by_cases h1 : wrap64 (n : Int) = 0
    · exact (rZero_no2 g bs i n r1 e1 hst h1 (fun h2 => h ⟨h1, h2⟩) _ _ _ _ w hr hq).mono fun _ _ k => RvR.of (rv_get (bs.drop i) 0 n r1 e1 hst h) (k.rv hok)
    · exact (rZero_no1 g bs i n r1 e1 hst h1 _ _ _ _ w hr hq).mono fun _ _ k => RvR.of (rv_get (bs.drop i) 0 n r1 e1 hst h) (k.rv hok)
end Go.Proofs.YtkhpgejammgolaaGreat

/- Layer 5: what stands between the steps of reading an expression, by the document. -/
namespace Go.Proofs.YtkhpgejammgolaaGreat
open Go.RowKit
set_option linter.unusedVariables false
set_option linter.unusedSimpArgs false
set_option maxRecDepth 20000

def RgE (g : Nat) (er : Int) (w : World) (e : Ending) (w' : World) : Prop := e = .returned (.tuple #[agZ, .int .i64 0, .int .i64 er]) ∧ (∃ r' e', RfS w' g r' e') ∧ Only g w w'
def RgO (g d : Nat) (x : Ex × Int × List UInt8) (w : World) (e : Ending) (w' : World) : Prop :=
  ∃ A c, e = .returned (.tuple #[agX x.1.op A x.1.kids.length c x.1.name x.1.val, .int .i64 x.2.1, .int .i64 0]) ∧ ExS (fun b => w.heap.size ≤ b) w' d A c x.1 ∧ RfS w' g x.2.2 0 ∧ Only g w w'
/-- what get leaves -/
def RgP (g d : Nat) (x : Except Int (Ex × Int × List UInt8)) (w : World) (e : Ending) (w' : World) : Prop := match x with
  | .error er => RgE g er w e w'
  | .ok y => RgO g d y w e w'
theorem Twb.one {g : Nat} {w w' : World} (h : Twb g g w w') : Only g w w' := ⟨h.os, h.tape, h.output, h.size, fun k hk h1 => h.block k hk (fun e => h1 (by rw [e])) (fun e => h1 (by rw [e]))⟩
theorem RgE.mk {g b6 : Nat} {er e' : Int} {r' : List UInt8} {w W : World} {cs : Array Value} (hr : RfS W g r' e') (ht : Twb g g w W) (hz : W.heap[b6]? = some (.cells cs 27 (0, 0))) (hb : w.heap.size ≤ b6) (hg : g < b6) (u0 u1 u2 u3 u4 u5 u6 u7 : Value) :
    RgE g er w (.returned (.tuple #[agZ, .int .i64 0, .int .i64 er])) (set8 W b6 u0 u1 u2 u3 u4 u5 u6 u7) :=
  ⟨rfl, ⟨_, _, hr.offT (set8_only _ _ _ _ _ _ _ _ _ _) hg hz (by decide)⟩, (ht.new (set8_only _ _ _ _ _ _ _ _ _ _) hb).one⟩
theorem RgE.drew {g : Nat} {er : Int} {w W : World} {e : Ending} (h : RgE g er w e W) : RgE g er w e W.drew := by
  obtain ⟨h1, ⟨r', e', h2⟩, h3⟩ := h
  exact ⟨h1, ⟨r', e', h2.below (Below.refl _ _).drew⟩, h3.below (Below.refl _ _).drew⟩
theorem RgO.mk {g d b6 c : Nat} {n : Int} {r : List UInt8} {x : Ex} {A : Option Addr} {w W : World} {cs : Array Value} (hx : ExS (fun b => b6 < b) W d A c x) (hr : RfS W g r 0) (ht : Twb g g w W) (hz : W.heap[b6]? = some (.cells cs 27 (0, 0))) (hb : w.heap.size ≤ b6) (hg : g < b6) (u0 u1 u2 u3 u4 u5 u6 u7 : Value) :
    RgO g d (x, n, r) w (.returned (.tuple #[agX x.op A x.kids.length c x.name x.val, .int .i64 n, .int .i64 0])) (set8 W b6 u0 u1 u2 u3 u4 u5 u6 u7) := by
  have ho := set8_only W b6 u0 u1 u2 u3 u4 u5 u6 u7
  exact ⟨A, c, rfl, hx.move (fun b hb2 hl => ⟨ho.block b hl (by intro e; injection e with e; omega), by omega⟩) ho.size, hr.offT ho hg hz (by decide), (ht.new ho hb).one⟩

/-- what holds ahead of each kid -/
structure RqI (F : Int → List UInt8 → Except Int (Ex × Int × List UInt8)) (w : World) (g b6 b8 d c : Nat) (L : Except Int (List Ex × Int × List UInt8)) (op : Int) (nm : ByteArray) (v : Vl) (wr : World) (k : Nat) (qs : List Kx) (nk : Int) (rk : List UInt8) (row : Value) : Prop where
  pre : pre (qs.map Kx.e) (getL F (c - k) nk rk) = L
  n0 : 0 ≤ nk
  n1 : nk ≤ 24
  len : rk.length ≤ 1000000000000
  rd : RfS wr g rk 0
  fr : Fr w g g b6 b8 wr #[.int .i64 op, row, .string nm, .int .i64 v.k, .int .i64 v.i, .bool v.b, .string v.s, .float .f64 v.n]
  own : wr.ownsRow (b8 + 1) 27 8 row k (qs.flatMap Kx.cells)
  kids : ∀ q ∈ qs, ExS (fun b => b8 < b ∧ row.ownBlock ≠ some b) wr d q.A q.c q.e
theorem RqI.next {F : Int → List UInt8 → Except Int (Ex × Int × List UInt8)} {w : World} {g b6 b8 d c : Nat} {L : Except Int (List Ex × Int × List UInt8)} {op : Int} {nm : ByteArray} {v : Vl} {wr w2 w4 : World} {k : Nat} {qs : List Kx} {nk n1 : Int} {rk r1 : List UInt8} {row row' : Value} {kid : Ex} {A : Option Addr} {cc : Nat} {o1 o2 : Obj}
    (h : RqI F w g b6 b8 d c L op nm v wr k qs nk rk row) (hk : k < c) (hx : F nk rk = .ok (kid, n1, r1)) (hbd : 0 ≤ n1 ∧ n1 ≤ nk ∧ r1.length ≤ rk.length) (hgw : g < w.heap.size) (h6 : w.heap.size ≤ b6) (h68 : b6 < b8)
    (hex : ExS (fun b => wr.heap.size ≤ b) w2 d A cc kid) (hrd : RfS w2 g r1 0) (htw : Twb g g wr w2)
    (hown : w4.ownsRow (b8 + 1) 27 8 row' (k + 1) (qs.flatMap Kx.cells ++ (Kx.mk kid A cc).cells)) (hgr : ((w2.alloc o1).alloc o2).grownBy w4 row.ownBlock) (hrow : row'.ownBlock = row.ownBlock ∨ row'.ownBlock = some ((w2.alloc o1).alloc o2).heap.size) :
    RqI F w g b6 b8 d c L op nm v (w4.setCell ⟨b8, 1, none⟩ row') (k + 1) (qs ++ [Kx.mk kid A cc]) n1 r1 row' := by
  obtain ⟨b0, b1, b2⟩ := hbd
  have hb8 : b8 < wr.heap.size := (Array.getElem?_eq_some_iff.1 h.fr.x).1
  have hb6 : b6 < wr.heap.size := (Array.getElem?_eq_some_iff.1 h.fr.z).1
  have hz2 := htw.size
  have hz3 : ((w2.alloc o1).alloc o2).heap.size = w2.heap.size + 2 := by simp
  have hz4 := hgr.size
  have hrow0 := h.own.lt
  -- a block that is none of those that were written
  have hkeep : ∀ b, b < w2.heap.size → b ≠ b8 → row.ownBlock ≠ some b → (w4.setCell ⟨b8, 1, none⟩ row').heap[b]? = w2.heap[b]? := fun b h1 h2 h3 => by
    rw [Below.heap_setCell w4 _ _ b h2, hgr.block b (by omega) (fun e => h3 e.symm)]
    exact ((alloc1 (w2.alloc o1) o2).block b (by simp; omega)).trans ((alloc1 w2 o1).block b h1)
  have hsz5 : (w4.setCell ⟨b8, 1, none⟩ row').heap.size = w4.heap.size := by simp [World.setCell]
  have h8own : row.ownBlock ≠ some b8 := fun e => by have := (hrow0 b8 e).1; omega
  have hkx : w2.heap[b8]? = some (.cells #[.int .i64 op, row, .string nm, .int .i64 v.k, .int .i64 v.i, .bool v.b, .string v.s, .float .f64 v.n] 27 (0, 0)) := (htw.block b8 hb8 (by omega) (by omega)).trans h.fr.x
  have hlow : ∀ b, b < b8 → row.ownBlock ≠ some b := fun b hb e => by have := (hrow0 b e).1; omega
  have hrowT : ∀ (b : Nat) (cs : Array Value) (fr : Nat × Nat), w2.heap[b]? = some (Obj.cells cs 5 fr) → row.ownBlock ≠ some b := fun b cs fr hb e => by
    rcases h.own.2 with ⟨rfl, -⟩ | ⟨g', cap, cur, rfl, hbase, hg', -⟩
    · cases e
    · injection e with e
      have e : g' = b := e
      subst e
      have h5 := (htw.block g' (Array.getElem?_eq_some_iff.1 hg').1 (by omega) (by omega)).trans hg'
      exact other_block hb h5 (by decide) rfl
  refine ⟨?_, b0, by have := h.n1; omega, by have := h.len; omega, ?_, ⟨?_, ?_, ?_⟩, ?_, ?_⟩
  · rw [List.map_append, List.map_cons, List.map_nil, ← h.pre, show c - k = c - (k + 1) + 1 by omega]
    exact (pre_ok hx).symm
  · exact hrd.keep (by rw [hsz5]; omega) (hkeep g (by omega) (by omega) (hlow g (by omega))) (fun b cs fr hb => hkeep b (Array.getElem?_eq_some_iff.1 hb).1 (other_block hb hkx (by decide)) (hrowT b cs fr hb)) fun b hb => hkeep b (by omega) (by omega) (hlow b (by omega))
  · exact (hkeep b6 (by omega) (by omega) (hlow b6 h68)).trans ((htw.block b6 hb6 (by omega) (by omega)).trans h.fr.z)
  · have h5 : w4.heap[b8]? = w2.heap[b8]? := (hgr.block b8 (by omega) (fun e => h8own e.symm)).trans (((alloc1 (w2.alloc o1) o2).block b8 (by simp; omega)).trans ((alloc1 w2 o1).block b8 (by omega)))
    rw [hkx] at h5
    simp [World.setCell, Array.getElem?_modify, h5]
  · have hwz := h.fr.t.size
    refine ⟨?_, ?_, ?_, by rw [hsz5]; omega, fun m hm m1 m2 => ?_⟩
    · exact hgr.os.trans (htw.os.trans h.fr.t.os)
    · exact hgr.tape.trans (htw.tape.trans h.fr.t.tape)
    · exact hgr.output.trans (htw.output.trans h.fr.t.output)
    · exact (hkeep m (by omega) (by omega) (hlow m (by omega))).trans ((htw.block m (by omega) m1 m2).trans (h.fr.t.block m hm m1 m2))
  · rw [List.flatMap_append, List.flatMap_cons, List.flatMap_nil, List.append_nil]
    exact ownsRow_setCell_below hown (a := ⟨b8, 1, none⟩) (Nat.lt_succ_self b8) row'
  · intro q hq
    rcases List.mem_append.1 hq with hq | hq
    · refine (h.kids q hq).move (fun b hb hl => ?_) (by rw [hsz5]; omega)
      refine ⟨(hkeep b (by omega) (by omega) hb.2).trans (htw.block b hl (by omega) (by omega)), hb.1, ?_⟩
      rcases hrow with e | e
      · rw [e]; exact hb.2
      · rw [e]; intro e2; injection e2 with e2; omega
    · rw [List.mem_singleton.1 hq]
      refine hex.move (fun b hb hl => ?_) (by rw [hsz5]; omega)
      have hne : row.ownBlock ≠ some b := fun e => by have := (hrow0 b e).2; omega
      refine ⟨hkeep b hl (by omega) hne, by omega, ?_⟩
      rcases hrow with e | e
      · rw [e]; exact hne
      · rw [e]; intro e2; injection e2 with e2; omega
end Go.Proofs.YtkhpgejammgolaaGreat

/- Layer 5: reading an expression, by the document. -/
namespace Go.Proofs.YtkhpgejammgolaaGreat
open Go.RowKit
set_option linter.unusedVariables false
set_option linter.unusedSimpArgs false
set_option maxRecDepth 20000

theorem RfS.len {w : World} {g : Nat} {rest : List UInt8} {e : Int} (h : RfS w g rest e) : rest.length ≤ 1000000000000 := by
  obtain ⟨bs, i, ⟨bv, hh, hb, h1, h2⟩, h3⟩ := h
  rw [← h3, List.length_drop]
  omega
set_option maxHeartbeats 4000000 in
theorem rget_none (g d : Nat) (n deep : Int) (rest : List UInt8) (w : World) (hdeep : deep = d) (hr : RfS w g rest 0) (hbad : d = 0 ∨ n < 1) :
    Calls Tryz.prog 46 #[.pointer (some ⟨g, 0, none⟩), .int .i64 deep, .int .i64 n] w (RgE g 51 w) := by
  have hgl := hr.lt
  have hX := heap_alloc_new w (.cells z8 27)
  have hrd := hr.below (alloc1 w (.cells z8 27))
  have ht := Below.two (alloc1 w (.cells z8 27)) g g
  have HRD := Lib.hid hrd
  have HT := Lib.hid ht
  have HX := Lib.hid hX
  clear hr hrd hX ht
  have hsf := fun (w : World) (a : Addr) (m : Mode) (b : Nat) => run_store Tryz.prog w a (.float .f64 b) m rfl
  by_cases hd : deep < 1
  · clear hdeep hbad
    go_enter Tryz.func46, Tryz.ntmps46
    go_upto_region 1 with fail
    unfold z8 at HRD HT HX
    generalize w.alloc (.cells #[.int .i64 0, .slice none 0 0, .string ⟨#[]⟩, .int .i64 0, .int .i64 0, .bool false, .string ⟨#[]⟩, .float .f64 0] 27) = w1 at *
    have v0 := (heap_at (HX.out) 0).trans (rfl : _ = some (Value.int .i64 0))
    have v1 := (heap_at (HX.out) 1).trans (rfl : _ = some (Value.slice none 0 0))
    have v2 := (heap_at (HX.out) 2).trans (rfl : _ = some (Value.string ⟨#[]⟩))
    have v3 := (heap_at (HX.out) 3).trans (rfl : _ = some (Value.int .i64 0))
    have v4 := (heap_at (HX.out) 4).trans (rfl : _ = some (Value.int .i64 0))
    have v5 := (heap_at (HX.out) 5).trans (rfl : _ = some (Value.bool false))
    have v6 := (heap_at (HX.out) 6).trans (rfl : _ = some (Value.string ⟨#[]⟩))
    have v7 := (heap_at (HX.out) 7).trans (rfl : _ = some (Value.float .f64 0))
    have vf := heap_free HX.out
    have vl : w.heap.size < w1.heap.size := (Array.getElem?_eq_some_iff.1 HX.out).1
    go_wp2
    exact bodyPost_ret (v := .tuple #[agZ, .int .i64 0, .int .i64 51]) (by simp [results, Tryz.results46, go_sem, v0, v1, v2, v3, v4, v5, v6, v7, vl]) rfl (RgE.mk HRD.out HT.out HX.out (Nat.le_refl _) hgl _ _ _ _ _ _ _ _)
  · have hn : n < 1 := by omega
    clear hdeep hbad
    go_enter Tryz.func46, Tryz.ntmps46
    go_upto_region 1 with fail
    unfold z8 at HRD HT HX
    generalize w.alloc (.cells #[.int .i64 0, .slice none 0 0, .string ⟨#[]⟩, .int .i64 0, .int .i64 0, .bool false, .string ⟨#[]⟩, .float .f64 0] 27) = w1 at *
    have v0 := (heap_at (HX.out) 0).trans (rfl : _ = some (Value.int .i64 0))
    have v1 := (heap_at (HX.out) 1).trans (rfl : _ = some (Value.slice none 0 0))
    have v2 := (heap_at (HX.out) 2).trans (rfl : _ = some (Value.string ⟨#[]⟩))
    have v3 := (heap_at (HX.out) 3).trans (rfl : _ = some (Value.int .i64 0))
    have v4 := (heap_at (HX.out) 4).trans (rfl : _ = some (Value.int .i64 0))
    have v5 := (heap_at (HX.out) 5).trans (rfl : _ = some (Value.bool false))
    have v6 := (heap_at (HX.out) 6).trans (rfl : _ = some (Value.string ⟨#[]⟩))
    have v7 := (heap_at (HX.out) 7).trans (rfl : _ = some (Value.float .f64 0))
    have vf := heap_free HX.out
    have vl : w.heap.size < w1.heap.size := (Array.getElem?_eq_some_iff.1 HX.out).1
    go_wp2
    exact bodyPost_ret (v := .tuple #[agZ, .int .i64 0, .int .i64 51]) (by simp [results, Tryz.results46, go_sem, v0, v1, v2, v3, v4, v5, v6, v7, vl]) rfl (RgE.mk HRD.out HT.out HX.out (Nat.le_refl _) hgl _ _ _ _ _ _ _ _)
set_option maxHeartbeats 8000000 in
theorem rget_walk (g d : Nat) (n deep : Int) (rest : List UInt8) (w : World) (hd : d + 1 ≤ 6) (hdeep : deep = ((d + 1 : Nat) : Int)) (h0 : 1 ≤ n) (h1 : n ≤ 24) (hr : RfS w g rest 0)
    (F : Int → List UInt8 → Except Int (Ex × Int × List UInt8)) (hbd : ∀ n r k n' r', 0 ≤ n → F n r = .ok (k, n', r') → 0 ≤ n' ∧ n' ≤ n ∧ r'.length ≤ r.length) (hfe : ∀ n r e, F n r = .error e → e ≠ 0) (X : Except Int (Ex × Int × List UInt8)) (op : Int) (c : Nat) (m : List UInt8) (v : Vl) (er e1 e2 e3 : Int) (r1 r2 r3 r4 : List UInt8)
    (ih : ∀ n rest w, 0 ≤ n → n ≤ 24 → RfS w g rest 0 → Calls Tryz.prog 46 #[.pointer (some ⟨g, 0, none⟩), .int .i64 (deep - 1), .int .i64 n] w (RgP g d (F n rest) w))
    (q1 : ∀ W, RfS W g rest 0 → Calls Tryz.prog 95 #[.pointer (some ⟨g, 0, none⟩)] W (DidR g (.int .i64 op) r1 e1 W))
    (q2 : ∀ W, RfS W g r1 e1 → Calls Tryz.prog 96 #[.pointer (some ⟨g, 0, none⟩), .int .i64 3] W (DidR g (.int .i64 c) r2 e2 W)) (hc4 : c ≤ 4294967295)
    (q3 : ∀ W, RfS W g r2 e2 → Calls Tryz.prog 86 #[.pointer (some ⟨g, 0, none⟩), .int .i64 16] W (DidRN g m r3 e3 W))
    (herr3 : e3 ≠ 0 → X = .error e3)
    (q4 : e3 = 0 → ∀ W, RfS W g r3 0 → Calls Tryz.prog 97 #[.pointer (some ⟨g, 0, none⟩)] W (RvR g v er r4 W)) (hlen4 : r4.length ≤ 1000000000000)
    (herr0 : e3 = 0 → er ≠ 0 → X = .error er) (hok0 : e3 = 0 → er = 0 → (∀ e, getL F c (n - 1) r4 = .error e → X = .error e) ∧ (∀ ks n' r, getL F c (n - 1) r4 = .ok (ks, n', r) → X = .ok (.mk op (strB m) v ks, n', r))) :
    Calls Tryz.prog 46 #[.pointer (some ⟨g, 0, none⟩), .int .i64 deep, .int .i64 n] w (RgP g (d + 1) X w) := by
  have hgl := hr.lt
  have hgb : g ≠ w.heap.size := by omega
  have hX := heap_alloc_new w (.cells z8 27)
  have Q1 := Lib.hid q1
  have Q2 := Lib.hid q2
  have Q3 := Lib.hid q3
  have Q4 := Lib.hid q4
  have IH := Lib.hid ih
  have HE3 := Lib.hid herr3
  have herr := Lib.hid herr0
  have HOK := Lib.hid hok0
  have HBD := Lib.hid hbd
  have HFE := Lib.hid hfe
  have HR2 := Lib.hid (hr.below (alloc1 w (.cells z8 27)))
  have HT2 := Lib.hid (Below.two (alloc1 w (.cells z8 27)) g g)
  have HX2 := Lib.hid hX
  have HGL := Lib.hid hgl
  have H01 := Lib.hid (And.intro h0 h1)
  have H4 := Lib.hid hlen4
  have HC4 := Lib.hid hc4
  have hwd : IntKind.i64.wrap (deep - 1) = deep - 1 := by rw [IntKind.wrap_i64]; omega
  have hwn : IntKind.i64.wrap (n - 1) = n - 1 := by rw [IntKind.wrap_i64]; omega
  have hnd : ¬ deep < 1 := by omega
  have hnn : ¬ n < 1 := by omega
  clear q1 q2 q3 q4 ih hX hr h0 h1 hlen4 hd hdeep hc4 herr3 herr0 hok0 hbd hfe
  have hsf := fun (w : World) (a : Addr) (m : Mode) (b : Nat) => run_store Tryz.prog w a (.float .f64 b) m rfl
  go_enter Tryz.func46, Tryz.ntmps46
  go_upto_region 1 with fail
  unfold z8 at HR2 HT2 HX2
  generalize w.alloc (.cells #[.int .i64 0, .slice none 0 0, .string ⟨#[]⟩, .int .i64 0, .int .i64 0, .bool false, .string ⟨#[]⟩, .float .f64 0] 27) = w2 at *
  go_wp2_with fail
  refine (Q1.out _ HR2.out).mono ?_
  rintro _ w3 ⟨rfl, hr3, ho3⟩
  have hX3 := heap_alloc_new w3 (.cells #[.int .i64 op, .slice none 0 0, .string ⟨#[]⟩, .int .i64 0, .int .i64 0, .bool false, .string ⟨#[]⟩, .float .f64 0] 27)
  have hfr4 : Fr w g g w.heap.size w3.heap.size (w3.alloc (.cells #[.int .i64 op, .slice none 0 0, .string ⟨#[]⟩, .int .i64 0, .int .i64 0, .bool false, .string ⟨#[]⟩, .float .f64 0] 27)) #[.int .i64 op, .slice none 0 0, .string ⟨#[]⟩, .int .i64 0, .int .i64 0, .bool false, .string ⟨#[]⟩, .float .f64 0] := by
    have hz3 : w.heap.size < w3.heap.size := Nat.lt_of_lt_of_le (Array.getElem?_eq_some_iff.1 HX2.out).1 ho3.size
    refine ⟨?_, hX3, (HT2.out.trans (ho3.two g)).trans (Below.two (alloc1 _ _) g g)⟩
    exact ((alloc1 _ _).block w.heap.size hz3).trans ((ho3.block w.heap.size (Array.getElem?_eq_some_iff.1 HX2.out).1 (by intro e; injection e with e; exact hgb e.symm)).trans HX2.out)
  have hr4 := hr3.below (alloc1 w3 (.cells #[.int .i64 op, .slice none 0 0, .string ⟨#[]⟩, .int .i64 0, .int .i64 0, .bool false, .string ⟨#[]⟩, .float .f64 0] 27))
  have h68 : w.heap.size < w3.heap.size := Nat.lt_of_lt_of_le (Array.getElem?_eq_some_iff.1 HX2.out).1 ho3.size
  go_upto_region 4 with fail
  generalize w3.alloc (.cells #[.int .i64 op, .slice none 0 0, .string ⟨#[]⟩, .int .i64 0, .int .i64 0, .bool false, .string ⟨#[]⟩, .float .f64 0] 27) = w4 at *
  generalize w3.heap.size = b8 at *
  have FR4 := Lib.hid hfr4
  have HR4 := Lib.hid hr4
  have H68 := Lib.hid h68
  have hg8 : g ≠ b8 := by have := HGL.out; omega
  have HG8 := Lib.hid (show g < b8 from by have := HGL.out; omega)
  clear hfr4 hr4 hX3 hr3 ho3 h68 HR2 HT2 HX2
  go_wp2_with fail
  refine (Q2.out _ HR4.out).mono ?_
  rintro _ w5 ⟨rfl, hr5, ho5⟩
  have FR5 := Lib.hid (FR4.out.two (ho5.two g) hgb.symm hgb.symm hg8.symm hg8.symm)
  have HR5 := Lib.hid hr5
  clear hr5 ho5 FR4 HR4
  go_wp2_with fail
  refine (Q3.out _ HR5.out).mono ?_
  rintro _ w6 ⟨u6, rfl, hu6, hr6, ho6, -⟩
  have hcv : (convert 28 9 u6).run Tryz.prog w6 = .ok (.string (strB m)) w6 := run_str hu6
  have FR5b := Lib.hid (FR5.out.two (ho6.two g) hgb.symm hgb.symm hg8.symm hg8.symm)
  have HR5b := Lib.hid hr6
  have x2 := (heap_at FR5b.out.x 2).trans (rfl : _ = some (Value.string ⟨#[]⟩))
  have xf := heap_free FR5b.out.x
  have xl : b8 < w6.heap.size := (Array.getElem?_eq_some_iff.1 FR5b.out.x).1
  clear hr6 ho6 FR5 HR5 hu6
  go_upto_region 6 with fail
  have hfr7 : Fr w g g w.heap.size b8 (w6.setCell ⟨b8, 2, none⟩ (.string (strB m))) #[.int .i64 op, .slice none 0 0, .string (strB m), .int .i64 0, .int .i64 0, .bool false, .string ⟨#[]⟩, .float .f64 0] := FR5b.out.set (Nat.ne_of_lt H68.out) (Nat.le_of_lt H68.out) 2 _
  have ho7 : Only b8 w6 (w6.setCell ⟨b8, 2, none⟩ (.string (strB m))) := (Only.refl _ _).set _ _
  have HR7 := Lib.hid (HR5b.out.offT ho7 HG8.out FR5b.out.x (by decide))
  have FR6 := Lib.hid hfr7
  generalize w6.setCell ⟨b8, 2, none⟩ (.string (strB m)) = w7 at *
  clear hfr7 ho7 x2 xf xl hcv FR5b HR5b
  have hge := HR7.out.err
  have hgl7 : g < w7.heap.size := HR7.out.lt
  by_cases he3 : ¬ e3 = 0
  · have hX := HE3.out he3
    subst hX
    have he3b : (e3 != 0) = true := by simpa using he3
    clear he3
    have v0 := (heap_at (FR6.out.z) 0).trans (rfl : _ = some (Value.int .i64 0))
    have v1 := (heap_at (FR6.out.z) 1).trans (rfl : _ = some (Value.slice none 0 0))
    have v2 := (heap_at (FR6.out.z) 2).trans (rfl : _ = some (Value.string ⟨#[]⟩))
    have v3 := (heap_at (FR6.out.z) 3).trans (rfl : _ = some (Value.int .i64 0))
    have v4 := (heap_at (FR6.out.z) 4).trans (rfl : _ = some (Value.int .i64 0))
    have v5 := (heap_at (FR6.out.z) 5).trans (rfl : _ = some (Value.bool false))
    have v6 := (heap_at (FR6.out.z) 6).trans (rfl : _ = some (Value.string ⟨#[]⟩))
    have v7 := (heap_at (FR6.out.z) 7).trans (rfl : _ = some (Value.float .f64 0))
    have vf := heap_free FR6.out.z
    have vl : w.heap.size < w7.heap.size := (Array.getElem?_eq_some_iff.1 FR6.out.z).1
    go_wp2
    go_region
    all_goals
      go_wp2
      exact bodyPost_ret (v := .tuple #[agZ, .int .i64 0, .int .i64 e3]) (by simp [results, Tryz.results46, go_sem, v0, v1, v2, v3, v4, v5, v6, v7, vl]) rfl (RgE.drew (RgE.mk HR7.out FR6.out.t FR6.out.z (Nat.le_refl _) HGL.out _ _ _ _ _ _ _ _))
  · replace he3 := Decidable.not_not.1 he3
    subst he3
    have h00 : ((0 : Int) != 0) = false := rfl
    have Q4b := Lib.hid (Q4.out rfl)
    have herrb := Lib.hid (herr.out rfl)
    have HOKb := Lib.hid (HOK.out rfl)
    clear Q4 herr HOK HE3
    go_wp2_with fail
    refine (Q4b.out _ HR7.out).mono ?_
    rintro _ w8 ⟨rfl, ⟨r8, e8, hr8, he8⟩, ho8⟩
    clear hge hgl7
    have FR8 := FR6.out.two (ho8.two g) hgb.symm hgb.symm hg8.symm hg8.symm
    have hvb := Bx.new w8 v
    have FR9 := Lib.hid (FR8.two (Below.two (alloc1 w8 (.cells #[.int .i64 v.k, .int .i64 v.i, .bool v.b, .string v.s, .float .f64 v.n] 25)) g g) hgb.symm hgb.symm hg8.symm hg8.symm)
    have HR9 := Lib.hid (hr8.below (alloc1 w8 (.cells #[.int .i64 v.k, .int .i64 v.i, .bool v.b, .string v.s, .float .f64 v.n] 25)))
    have HE8 := Lib.hid he8
    have BX9 := Lib.hid hvb
    clear FR6 HR7 hr8 he8 ho8 FR8 hvb
    go_upto_region 9 with fail
    generalize w8.alloc (.cells #[.int .i64 v.k, .int .i64 v.i, .bool v.b, .string v.s, .float .f64 v.n] 25) = w9 at *
    generalize w8.heap.size = b10 at *
    by_cases her : ¬ er = 0
    · have hX := herrb.out her
      subst hX
      have herb : (er != 0) = true := by simpa using her
      clear her
      have v0 := (heap_at (FR9.out.z) 0).trans (rfl : _ = some (Value.int .i64 0))
      have v1 := (heap_at (FR9.out.z) 1).trans (rfl : _ = some (Value.slice none 0 0))
      have v2 := (heap_at (FR9.out.z) 2).trans (rfl : _ = some (Value.string ⟨#[]⟩))
      have v3 := (heap_at (FR9.out.z) 3).trans (rfl : _ = some (Value.int .i64 0))
      have v4 := (heap_at (FR9.out.z) 4).trans (rfl : _ = some (Value.int .i64 0))
      have v5 := (heap_at (FR9.out.z) 5).trans (rfl : _ = some (Value.bool false))
      have v6 := (heap_at (FR9.out.z) 6).trans (rfl : _ = some (Value.string ⟨#[]⟩))
      have v7 := (heap_at (FR9.out.z) 7).trans (rfl : _ = some (Value.float .f64 0))
      have vf := heap_free FR9.out.z
      have vl : w.heap.size < w9.heap.size := (Array.getElem?_eq_some_iff.1 FR9.out.z).1
      go_wp2
      exact bodyPost_ret (v := .tuple #[agZ, .int .i64 0, .int .i64 er]) (by simp [results, Tryz.results46, go_sem, v0, v1, v2, v3, v4, v5, v6, v7, vl]) rfl (RgE.mk HR9.out FR9.out.t FR9.out.z (Nat.le_refl _) HGL.out _ _ _ _ _ _ _ _)
    · replace her := Decidable.not_not.1 her
      subst her
      obtain ⟨rfl, rfl⟩ := HE8.out rfl
      obtain ⟨y0, y1, y2, y3, y4⟩ := BX9.out
      have x3 := (heap_at FR9.out.x 3).trans (rfl : _ = some (Value.int .i64 0))
      have x4 := (heap_at FR9.out.x 4).trans (rfl : _ = some (Value.int .i64 0))
      have x5 := (heap_at FR9.out.x 5).trans (rfl : _ = some (Value.bool false))
      have x6 := (heap_at FR9.out.x 6).trans (rfl : _ = some (Value.string ⟨#[]⟩))
      have x7 := (heap_at FR9.out.x 7).trans (rfl : _ = some (Value.float .f64 0))
      have xf := heap_free FR9.out.x
      have xl : b8 < w9.heap.size := (Array.getElem?_eq_some_iff.1 FR9.out.x).1
      go_upto_region 12 with fail
      have ne68 := Nat.ne_of_lt H68.out
      have le68 := Nat.le_of_lt H68.out
      have hfr10 : Fr w g g w.heap.size b8 (((((w9.setCell ⟨b8, 3, none⟩ (.int .i64 v.k)).setCell ⟨b8, 4, none⟩ (.int .i64 v.i)).setCell ⟨b8, 5, none⟩ (.bool v.b)).setCell ⟨b8, 6, none⟩ (.string v.s)).setCell ⟨b8, 7, none⟩ (.float .f64 v.n)) #[.int .i64 op, .slice none 0 0, .string (strB m), .int .i64 v.k, .int .i64 v.i, .bool v.b, .string v.s, .float .f64 v.n] := ((((FR9.out.set ne68 le68 3 _).set ne68 le68 4 _).set ne68 le68 5 _).set ne68 le68 6 _).set ne68 le68 7 _
      have ho10 : Only b8 w9 (((((w9.setCell ⟨b8, 3, none⟩ (.int .i64 v.k)).setCell ⟨b8, 4, none⟩ (.int .i64 v.i)).setCell ⟨b8, 5, none⟩ (.bool v.b)).setCell ⟨b8, 6, none⟩ (.string v.s)).setCell ⟨b8, 7, none⟩ (.float .f64 v.n)) := (((((Only.refl _ _).set _ _).set _ _).set _ _).set _ _).set _ _
      have HR10 := Lib.hid (HR9.out.offT ho10 HG8.out FR9.out.x (by decide))
      have FR10 := Lib.hid hfr10
      generalize (((((w9.setCell ⟨b8, 3, none⟩ (.int .i64 v.k)).setCell ⟨b8, 4, none⟩ (.int .i64 v.i)).setCell ⟨b8, 5, none⟩ (.bool v.b)).setCell ⟨b8, 6, none⟩ (.string v.s)).setCell ⟨b8, 7, none⟩ (.float .f64 v.n)) = w10 at *
      clear hfr10 ho10 x3 x4 x5 x6 x7 xf xl y0 y1 y2 y3 y4 FR9 HR9 HE8 BX9 herrb ne68 le68
      obtain ⟨i1, hi1, hz1, hsz1, hby1⟩ := infoZ exprinfo
      have HK := Lib.hid (HOKb.out rfl)
      clear HOKb
      generalize hL : getL F c (n - 1) r8 = L at *
      have HL := Lib.hid hL
      clear hL
      go_wp2
      go_loopw [2, 13] (fun nv i wr => ∃ (k : Nat) (qs : List Kx) (nk : Int) (rk : List UInt8) (row : Value), k ≤ c ∧ nv = .int .i64 nk ∧ i = .int .i64 k ∧ RqI F w g w.heap.size b8 d c L op (strB m) v wr k qs nk rk row) (fun _ i _ => c - (intOf i).toNat)
      case atStart =>
        refine ⟨0, [], n - 1, r8, .slice none 0 0, Nat.zero_le _, rfl, rfl, ⟨?_, by have := H01.out; omega, by have := H01.out; omega, H4.out, HR10.out, FR10.out, World.ownsRow_nil _ _ _ _, fun q hq => by cases hq⟩⟩
        rw [List.map_nil, pre_nil, Nat.sub_zero]
        exact HL.out
      case round =>
        obtain ⟨k, qs, nk, rk, row, hk, rfl, rfl, hi⟩ := hrel
        have HI := Lib.hid hi
        clear hi FR10 HR10
        by_cases hlt : k < c
        · have hltI : (k : Int) < (c : Int) := by omega
          have hcall := IH.out nk rk wr HI.out.n0 HI.out.n1 HI.out.rd
          rcases hx : F nk rk with er | ⟨kid, n1, r1⟩
          · rw [hx] at hcall
            have hne := HFE.out nk rk er hx
            have herb : (er != 0) = true := by simpa using hne
            have hL : L = .error er := by rw [← HI.out.pre, show c - k = c - (k + 1) + 1 by omega]; exact pre_no hx
            have hX := HK.out.1 er hL
            subst hX
            have HC := Lib.hid (show Calls _ _ _ _ (RgE g er wr) from hcall)
            clear hcall hx hne hL hlt
            go_wp2_with fail
            refine HC.out.mono ?_
            rintro _ wA ⟨rfl, ⟨r', e', hrA⟩, htA⟩
            have FA := Lib.hid ((HI.out.fr.two (htA.two g) hgb.symm hgb.symm hg8.symm hg8.symm).two (Below.two (alloc1 wA (.cells z8 27)) g g) hgb.symm hgb.symm hg8.symm hg8.symm)
            have HRA := Lib.hid (hrA.below (alloc1 wA (.cells z8 27)))
            clear hrA htA
            go_upto_region 17 with fail
            unfold z8 at FA HRA
            generalize wA.alloc (.cells #[.int .i64 0, .slice none 0 0, .string ⟨#[]⟩, .int .i64 0, .int .i64 0, .bool false, .string ⟨#[]⟩, .float .f64 0] 27) = wB at *
            have v0 := (heap_at (FA.out.z) 0).trans (rfl : _ = some (Value.int .i64 0))
            have v1 := (heap_at (FA.out.z) 1).trans (rfl : _ = some (Value.slice none 0 0))
            have v2 := (heap_at (FA.out.z) 2).trans (rfl : _ = some (Value.string ⟨#[]⟩))
            have v3 := (heap_at (FA.out.z) 3).trans (rfl : _ = some (Value.int .i64 0))
            have v4 := (heap_at (FA.out.z) 4).trans (rfl : _ = some (Value.int .i64 0))
            have v5 := (heap_at (FA.out.z) 5).trans (rfl : _ = some (Value.bool false))
            have v6 := (heap_at (FA.out.z) 6).trans (rfl : _ = some (Value.string ⟨#[]⟩))
            have v7 := (heap_at (FA.out.z) 7).trans (rfl : _ = some (Value.float .f64 0))
            have vf := heap_free FA.out.z
            have vl : w.heap.size < wB.heap.size := (Array.getElem?_eq_some_iff.1 FA.out.z).1
            go_wp2
            exact bodyPost_ret (v := .tuple #[agZ, .int .i64 0, .int .i64 er]) (by simp [results, Tryz.results46, go_sem, v0, v1, v2, v3, v4, v5, v6, v7, vl]) rfl (RgE.mk HRA.out FA.out.t FA.out.z (Nat.le_refl _) HGL.out _ _ _ _ _ _ _ _)
          · rw [hx] at hcall
            have HC := Lib.hid (show Calls _ _ _ _ (RgO g d (kid, n1, r1) wr) from hcall)
            have HX := Lib.hid hx
            have HLT := Lib.hid hlt
            clear hcall hx
            go_wp2_with fail
            refine HC.out.mono ?_
            rintro _ wA ⟨A', c', rfl, hex, hrdA, htA⟩
            have FA := Lib.hid (HI.out.fr.two (htA.two g) hgb.symm hgb.symm hg8.symm hg8.symm)
            have HEX := Lib.hid hex
            have HRA := Lib.hid hrdA
            have HTA := Lib.hid (htA.two g)
            have hown2 := own_twb HI.out.own (htA.two g) (by have := HGL.out; have := H68.out; omega) (by have := HGL.out; have := H68.out; omega)
            have HOW := Lib.hid ((hown2.alloc (.cells (Kx.mk kid A' c').cells.toArray 27)).alloc (.cells (Kx.mk kid A' c').cells.toArray 27))
            have hrw := rows_one (wA.alloc (.cells (Kx.mk kid A' c').cells.toArray 27)) (Kx.mk kid A' c').cells 27 8 rfl
            rw [World.size_alloc] at hrw
            have HRW := Lib.hid hrw
            clear hrw
            have x1 := (heap_at FA.out.x 1).trans (rfl : _ = some row)
            have xf := heap_free FA.out.x
            have xl : b8 < wA.heap.size := (Array.getElem?_eq_some_iff.1 FA.out.x).1
            clear hex hrdA htA hown2 hlt
            have hb1 : k + 1 ≤ maxLen := by have := HC4.out; have := HLT.out; unfold maxLen; omega
            have hb2 : (k + 1) * 96 ≤ 140737488355328 := by have := HC4.out; have := HLT.out; omega
            have hb3 : b8 + 1 ≤ ((wA.alloc (.cells (Kx.mk kid A' c').cells.toArray 27)).alloc (.cells (Kx.mk kid A' c').cells.toArray 27)).heap.size := by simp only [World.size_alloc]; omega
            have hb4 : ∀ u ∈ (Kx.mk kid A' c').cells, u.oneCell' = true := fun u hu => kx_one [Kx.mk kid A' c'] u (by rw [List.flatMap_cons, List.flatMap_nil, List.append_nil]; exact hu)
            have HBS := Lib.hid (And.intro hb1 (And.intro hb2 (And.intro hb3 hb4)))
            clear hb1 hb2 hb3 hb4
            have hkb : k + 1 ≤ 4294967295 := by have := HC4.out; have := HLT.out; omega
            go_wp2_with (at_builtin; refine wpList_append_rows rfl (.tmp 76) (.tmp 78) 22 rfl (b8 + 1) 27 i1 agZ 8 96 Tryz.underlying22 hi1 hz1 hsz1 hby1 rfl (by decide) row k _ rfl HOW.out _ 1 _ rfl HRW.out HBS.out.2.2.2 HBS.out.1 HBS.out.2.1 HBS.out.2.2.1 ?_; intro v4 w4 hown4 hgr4 hor4; obtain ⟨A4, c4, rfl⟩ := own_sliceX hown4; have HN := Lib.hid (RqI.next HI.out HLT.out HX.out (HBD.out _ _ _ _ _ HI.out.n0 HX.out) HGL.out (Nat.le_refl _) H68.out HEX.out HRA.out HTA.out hown4 hgr4 hor4); have hbb := hgr4.block b8 (Nat.lt_of_lt_of_le (Nat.lt_succ_self b8) HBS.out.2.2.1) (fun e => by have := (HOW.out.lt b8 e.symm).1; omega); have hbx := hbb.trans (((alloc1 _ _).block b8 (by simp only [World.size_alloc]; omega)).trans (((alloc1 _ _).block b8 xl).trans FA.out.x)); have x1b := (heap_at hbx 1).trans (rfl : _ = some row); have xfb := heap_free hbx 1; clear hown4 hgr4 hor4 hbb hbx x1 xf xl)
            go_roundw
            case rel => exact ⟨k + 1, _, n1, r1, _, by have := HLT.out; omega, rfl, by go_num, HN.out⟩
            case measure => simp [intOf]; have := HLT.out; omega
        · obtain rfl : k = c := by omega
          have hpre := HI.out.pre
          rw [Nat.sub_self, pre_end] at hpre
          have hX := HK.out.2 _ _ _ hpre.symm
          subst hX
          obtain ⟨A2, c2, rfl, hex⟩ := exs_own (T := fun b => w.heap.size < b) HI.out.own HI.out.kids (fun b hb => by have := H68.out; omega) (fun b hb => by have := H68.out; omega) op (strB m) v
          have HEX := Lib.hid hex
          have FA := Lib.hid HI.out.fr
          have HRS := Lib.hid HI.out.rd
          clear hex hpre HI HL
          have v0 := (heap_at (FA.out.z) 0).trans (rfl : _ = some (Value.int .i64 0))
          have v1 := (heap_at (FA.out.z) 1).trans (rfl : _ = some (Value.slice none 0 0))
          have v2 := (heap_at (FA.out.z) 2).trans (rfl : _ = some (Value.string ⟨#[]⟩))
          have v3 := (heap_at (FA.out.z) 3).trans (rfl : _ = some (Value.int .i64 0))
          have v4 := (heap_at (FA.out.z) 4).trans (rfl : _ = some (Value.int .i64 0))
          have v5 := (heap_at (FA.out.z) 5).trans (rfl : _ = some (Value.bool false))
          have v6 := (heap_at (FA.out.z) 6).trans (rfl : _ = some (Value.string ⟨#[]⟩))
          have v7 := (heap_at (FA.out.z) 7).trans (rfl : _ = some (Value.float .f64 0))
          have x0 := (heap_at (FA.out.x) 0).trans (rfl : _ = some (Value.int .i64 op))
          have x1 := (heap_at (FA.out.x) 1).trans (rfl : _ = some (Value.slice A2 (qs.map Kx.e).length c2))
          have x2 := (heap_at (FA.out.x) 2).trans (rfl : _ = some (Value.string (strB m)))
          have x3 := (heap_at (FA.out.x) 3).trans (rfl : _ = some (Value.int .i64 v.k))
          have x4 := (heap_at (FA.out.x) 4).trans (rfl : _ = some (Value.int .i64 v.i))
          have x5 := (heap_at (FA.out.x) 5).trans (rfl : _ = some (Value.bool v.b))
          have x6 := (heap_at (FA.out.x) 6).trans (rfl : _ = some (Value.string v.s))
          have x7 := (heap_at (FA.out.x) 7).trans (rfl : _ = some (Value.float .f64 v.n))
          have vf := heap_free FA.out.z
          have vl : w.heap.size < wr.heap.size := (Array.getElem?_eq_some_iff.1 FA.out.z).1
          have xl : b8 < wr.heap.size := (Array.getElem?_eq_some_iff.1 FA.out.x).1
          generalize hks : qs.map Kx.e = ks at *
          clear hks
          go_wp2
          exact bodyPost_ret (v := .tuple #[agX op A2 ks.length c2 (strB m) v, .int .i64 nk, .int .i64 0]) (by simp [results, Tryz.results46, go_sem, v0, v1, v2, v3, v4, v5, v6, v7, vl]) rfl (RgO.mk (x := .mk op (strB m) v ks) HEX.out HRS.out FA.out.t FA.out.z (Nat.le_refl _) HGL.out _ _ _ _ _ _ _ _)
end Go.Proofs.YtkhpgejammgolaaGreat

/- Layer 5: Get, by the document. -/
namespace Go.Proofs.YtkhpgejammgolaaGreat
open Go.RowKit
set_option linter.unusedVariables false
set_option linter.unusedSimpArgs false
set_option maxRecDepth 20000

theorem getX_head_err3 {d : Nat} {n : Int} {rest r1 r2 r3 m : List UInt8} {o c : Nat} {e1 e2 e3 : Int} (hn : ¬ n < 1) (h1 : stepF 8 alInt rest 0 = (o, r1, e1)) (h2 : stepF 4 (alCount 3) r1 e1 = (c, r2, e2)) (h3 : bytesF 16 r2 e2 = (m, r3, e3)) (h : e3 ≠ 0) : getX (d + 1) n rest = .error e3 :=
  getX_head_err hn h1 h2 h3 (rvF_err _ _ h) h
theorem rget_any (g : Nat) : ∀ (d : Nat) (n deep : Int) (rest : List UInt8) (w : World), d ≤ 6 → deep = d → 0 ≤ n → n ≤ 24 → RfS w g rest 0 →
    Calls Tryz.prog 46 #[.pointer (some ⟨g, 0, none⟩), .int .i64 deep, .int .i64 n] w (RgP g d (getX d n rest) w)
  | 0, n, deep, rest, w, hd, hdeep, h0, h1, hr => by
    rw [getX_none (.inl rfl)]
    exact rget_none g 0 n deep rest w hdeep hr (.inl rfl)
  | d + 1, n, deep, rest, w, hd, hdeep, h0, h1, hr => by
    by_cases hn : n < 1
    · rw [getX_none (.inr hn)]
      exact rget_none g (d + 1) n deep rest w hdeep hr (.inr hn)
    have hlen := hr.len
    have q1 : ∀ W, RfS W g rest 0 → Calls Tryz.prog 95 #[.pointer (some ⟨g, 0, none⟩)] W (DidR g (.int .i64 (wrap64 ((stepF 8 alInt rest 0).1 : Int))) (stepF 8 alInt rest 0).2.1 (stepF 8 alInt rest 0).2.2 W) := fun W h => rfInt_any g rest 0 W h
    have l1 := stepF_len 8 alInt rest 0
    rcases hs1 : stepF 8 alInt rest 0 with ⟨o, r1, e1⟩
    rw [hs1] at q1 l1
    have q2 : ∀ W, RfS W g r1 e1 → Calls Tryz.prog 96 #[.pointer (some ⟨g, 0, none⟩), .int .i64 3] W (DidR g (.int .i64 (stepF 4 (alCount 3) r1 e1).1) (stepF 4 (alCount 3) r1 e1).2.1 (stepF 4 (alCount 3) r1 e1).2.2 W) := fun W h => rfCount_any g r1 e1 3 (by decide) (by decide) W h
    have l2 := stepF_len 4 (alCount 3) r1 e1
    have hc4 := step4_le (alCount 3) r1 e1
    rcases hs2 : stepF 4 (alCount 3) r1 e1 with ⟨c, r2, e2⟩
    rw [hs2] at q2 l2 hc4
    dsimp only at q1 q2 l1 l2 hc4
    have q3 : ∀ W, RfS W g r2 e2 → Calls Tryz.prog 86 #[.pointer (some ⟨g, 0, none⟩), .int .i64 16] W (DidRN g (bytesF 16 r2 e2).1 (bytesF 16 r2 e2).2.1 (bytesF 16 r2 e2).2.2 W) := fun W h => rfBytes_any g r2 e2 16 (by decide) (by decide) W h
    have l3 := bytesF_len 16 r2 e2
    rcases hs3 : bytesF 16 r2 e2 with ⟨m, r3, e3⟩
    rw [hs3] at q3 l3
    dsimp only at q3 l3
    have q4 : ∀ W, RfS W g r3 0 → Calls Tryz.prog 97 #[.pointer (some ⟨g, 0, none⟩)] W (RvR g (rvF r3 0).1 (rvF r3 0).2.2 (rvF r3 0).2.1 W) := fun W h => rZero_any g r3 W h
    have l4 := rvF_len r3 0
    rcases hs4 : rvF r3 0 with ⟨v, r4, er⟩
    rw [hs4] at q4 l4
    dsimp only at q4 l4
    exact rget_walk g d n deep rest w hd hdeep (by omega) h1 hr (getX d) (getX_bd d) (getX_er d) (getX (d + 1) n rest) (wrap64 (o : Int)) c m v er e1 e2 e3 r1 r2 r3 r4
      (fun n rest w a b h => rget_any g d n (deep - 1) rest w (by omega) (by omega) a b h) q1 q2 hc4 q3 (fun h => getX_head_err3 (d := d) hn hs1 hs2 hs3 h) (fun _ => q4) (by omega)
      (fun h3 h => getX_head_err (d := d) hn hs1 hs2 hs3 ((by rw [h3]; exact hs4 : rvF r3 e3 = _)) h) (fun h3 h => getX_head_ok (d := d) hn hs1 hs2 hs3 ((by rw [h3, hs4, h] : rvF r3 e3 = _)))

/-- what the document's Get leaves -/
def GyE (g : Nat) (er : Int) (w : World) (e : Ending) (w' : World) : Prop := e = .returned (.tuple #[agZ, .int .i64 er]) ∧ (∃ r' e', RfS w' g r' e') ∧ Only g w w'
def GyO (g : Nat) (x : Ex × Int × List UInt8) (w : World) (e : Ending) (w' : World) : Prop :=
  ∃ A c, e = .returned (.tuple #[agX x.1.op A x.1.kids.length c x.1.name x.1.val, .int .i64 0]) ∧ ExS (fun b => w.heap.size ≤ b) w' 6 A c x.1 ∧ RfS w' g x.2.2 0 ∧ Only g w w'
def GyP (g : Nat) (x : Except Int (Ex × Int × List UInt8)) (w : World) (e : Ending) (w' : World) : Prop := match x with
  | .error er => GyE g er w e w'
  | .ok y => GyO g y w e w'
theorem GyE.mk {g b6 : Nat} {er e' : Int} {r' : List UInt8} {w W : World} {cs : Array Value} (hr : RfS W g r' e') (ho : Only g w W) (hz : W.heap[b6]? = some (.cells cs 27 (0, 0))) (hb : w.heap.size ≤ b6) (hg : g < b6) (u0 u1 u2 u3 u4 u5 u6 u7 : Value) :
    GyE g er w (.returned (.tuple #[agZ, .int .i64 er])) (set8 W b6 u0 u1 u2 u3 u4 u5 u6 u7) :=
  ⟨rfl, ⟨_, _, hr.offT (set8_only _ _ _ _ _ _ _ _ _ _) hg hz (by decide)⟩, ho.new (set8_only _ _ _ _ _ _ _ _ _ _) hb⟩
theorem GyE.drew {g : Nat} {er : Int} {w W : World} {e : Ending} (h : GyE g er w e W) : GyE g er w e W.drew := by
  obtain ⟨h1, ⟨r', e', h2⟩, h3⟩ := h
  exact ⟨h1, ⟨r', e', h2.below (Below.refl _ _).drew⟩, h3.below (Below.refl _ _).drew⟩
theorem GyO.mk {g b6 c : Nat} {n : Int} {r : List UInt8} {x : Ex} {A : Option Addr} {w W : World} {cs : Array Value} (hx : ExS (fun b => b6 < b) W 6 A c x) (hr : RfS W g r 0) (ho : Only g w W) (hz : W.heap[b6]? = some (.cells cs 27 (0, 0))) (hb : w.heap.size ≤ b6) (hg : g < b6) (u0 u1 u2 u3 u4 u5 u6 u7 : Value) :
    GyO g (x, n, r) w (.returned (.tuple #[agX x.op A x.kids.length c x.name x.val, .int .i64 0])) (set8 W b6 u0 u1 u2 u3 u4 u5 u6 u7) := by
  have h8 := set8_only W b6 u0 u1 u2 u3 u4 u5 u6 u7
  exact ⟨A, c, rfl, hx.move (fun b hb2 hl => ⟨h8.block b hl (by intro e; injection e with e; omega), by omega⟩) h8.size, hr.offT h8 hg hz (by decide), ho.new h8 hb⟩
set_option maxHeartbeats 4000000 in
theorem reGet_late (g : Nat) (rest : List UInt8) (e0 : Int) (he : e0 ≠ 0) (w : World) (hr : RfS w g rest e0) : Calls Tryz.prog 15 #[.pointer (some ⟨g, 0, none⟩)] w (GyE g e0 w) := by
  have hgl := hr.lt
  have HR := Lib.hid (hr.below (alloc1 w (.cells #[.int .i64 0, .slice none 0 0, .string ⟨#[]⟩, .int .i64 0, .int .i64 0, .bool false, .string ⟨#[]⟩, .float .f64 0] 27)))
  have HX := Lib.hid (heap_alloc_new w (.cells #[.int .i64 0, .slice none 0 0, .string ⟨#[]⟩, .int .i64 0, .int .i64 0, .bool false, .string ⟨#[]⟩, .float .f64 0] 27))
  have HO := Lib.hid (Only.of_below (g := g) (alloc1 w (.cells #[.int .i64 0, .slice none 0 0, .string ⟨#[]⟩, .int .i64 0, .int .i64 0, .bool false, .string ⟨#[]⟩, .float .f64 0] 27)))
  have heb : (e0 != 0) = true := by simpa using he
  clear hr he
  have hsf := fun (w : World) (a : Addr) (m : Mode) (b : Nat) => run_store Tryz.prog w a (.float .f64 b) m rfl
  go_enter Tryz.func15, Tryz.ntmps15
  go_upto_region 1 with fail
  generalize w.alloc (.cells #[.int .i64 0, .slice none 0 0, .string ⟨#[]⟩, .int .i64 0, .int .i64 0, .bool false, .string ⟨#[]⟩, .float .f64 0] 27) = w1 at *
  have hge := HR.out.err
  have hg1 := HR.out.lt
  have v0 := (heap_at (HX.out) 0).trans (rfl : _ = some (Value.int .i64 0))
  have v1 := (heap_at (HX.out) 1).trans (rfl : _ = some (Value.slice none 0 0))
  have v2 := (heap_at (HX.out) 2).trans (rfl : _ = some (Value.string ⟨#[]⟩))
  have v3 := (heap_at (HX.out) 3).trans (rfl : _ = some (Value.int .i64 0))
  have v4 := (heap_at (HX.out) 4).trans (rfl : _ = some (Value.int .i64 0))
  have v5 := (heap_at (HX.out) 5).trans (rfl : _ = some (Value.bool false))
  have v6 := (heap_at (HX.out) 6).trans (rfl : _ = some (Value.string ⟨#[]⟩))
  have v7 := (heap_at (HX.out) 7).trans (rfl : _ = some (Value.float .f64 0))
  have vf := heap_free HX.out
  have vl : w.heap.size < w1.heap.size := (Array.getElem?_eq_some_iff.1 HX.out).1
  go_wp2
  go_region
  all_goals
    go_wp2
    exact bodyPost_ret (v := .tuple #[agZ, .int .i64 e0]) (by simp [results, Tryz.results15, go_sem, v0, v1, v2, v3, v4, v5, v6, v7, vl]) rfl (GyE.drew (GyE.mk HR.out HO.out HX.out (Nat.le_refl _) hgl _ _ _ _ _ _ _ _))
set_option maxHeartbeats 4000000 in
theorem reGet_walk (g : Nat) (rest : List UInt8) (X : Except Int (Ex × Int × List UInt8)) (w : World) (hr : RfS w g rest 0)
    (hq : ∀ W, RfS W g rest 0 → Calls Tryz.prog 46 #[.pointer (some ⟨g, 0, none⟩), .int .i64 6, .int .i64 24] W (RgP g 6 X W)) : Calls Tryz.prog 15 #[.pointer (some ⟨g, 0, none⟩)] w (GyP g X w) := by
  have hgl := hr.lt
  have HR := Lib.hid (hr.below (alloc1 w (.cells #[.int .i64 0, .slice none 0 0, .string ⟨#[]⟩, .int .i64 0, .int .i64 0, .bool false, .string ⟨#[]⟩, .float .f64 0] 27)))
  have HX := Lib.hid (heap_alloc_new w (.cells #[.int .i64 0, .slice none 0 0, .string ⟨#[]⟩, .int .i64 0, .int .i64 0, .bool false, .string ⟨#[]⟩, .float .f64 0] 27))
  have HO := Lib.hid (Only.of_below (g := g) (alloc1 w (.cells #[.int .i64 0, .slice none 0 0, .string ⟨#[]⟩, .int .i64 0, .int .i64 0, .bool false, .string ⟨#[]⟩, .float .f64 0] 27)))
  have h00 : ((0 : Int) != 0) = false := rfl
  have HQ := Lib.hid hq
  have HW := Lib.hid (alloc1 w (.cells #[.int .i64 0, .slice none 0 0, .string ⟨#[]⟩, .int .i64 0, .int .i64 0, .bool false, .string ⟨#[]⟩, .float .f64 0] 27)).size
  clear hr hq
  have hsf := fun (w : World) (a : Addr) (m : Mode) (b : Nat) => run_store Tryz.prog w a (.float .f64 b) m rfl
  go_enter Tryz.func15, Tryz.ntmps15
  go_upto_region 1 with fail
  generalize w.alloc (.cells #[.int .i64 0, .slice none 0 0, .string ⟨#[]⟩, .int .i64 0, .int .i64 0, .bool false, .string ⟨#[]⟩, .float .f64 0] 27) = w1 at *
  have hge := HR.out.err
  have hg1 := HR.out.lt
  have hwl : w.heap.size < w1.heap.size := (Array.getElem?_eq_some_iff.1 HX.out).1
  have HWL := Lib.hid hwl
  clear hwl
  rcases X with er | ⟨x, n', r'⟩
  · have HC := Lib.hid (fun W h => show Calls _ _ _ _ (RgE g er W) from HQ.out W h)
    clear HQ
    go_wp2_with fail
    refine (HC.out _ HR.out).mono ?_
    rintro _ wA ⟨rfl, ⟨r', e', hrA⟩, hoA⟩
    have hX := (hoA.block w.heap.size HWL.out (by intro e; injection e with e; omega)).trans HX.out
    have HZ := Lib.hid (((alloc1 wA (.cells #[.int .i64 0, .slice none 0 0, .string ⟨#[]⟩, .int .i64 0, .int .i64 0, .bool false, .string ⟨#[]⟩, .float .f64 0] 27)).block w.heap.size (Array.getElem?_eq_some_iff.1 hX).1).trans hX)
    have HRA := Lib.hid (hrA.below (alloc1 wA (.cells #[.int .i64 0, .slice none 0 0, .string ⟨#[]⟩, .int .i64 0, .int .i64 0, .bool false, .string ⟨#[]⟩, .float .f64 0] 27)))
    have HON := Lib.hid (Only.below (HO.out.trans hoA) (alloc1 wA (.cells #[.int .i64 0, .slice none 0 0, .string ⟨#[]⟩, .int .i64 0, .int .i64 0, .bool false, .string ⟨#[]⟩, .float .f64 0] 27)))
    have HNB := Lib.hid (heap_alloc_new wA (.cells #[.int .i64 0, .slice none 0 0, .string ⟨#[]⟩, .int .i64 0, .int .i64 0, .bool false, .string ⟨#[]⟩, .float .f64 0] 27))
    clear hrA hoA hX hge hg1
    go_upto_region 4 with fail
    generalize wA.alloc (.cells #[.int .i64 0, .slice none 0 0, .string ⟨#[]⟩, .int .i64 0, .int .i64 0, .bool false, .string ⟨#[]⟩, .float .f64 0] 27) = wB at *
    generalize wA.heap.size = b5 at *
    have v0 := (heap_at (HZ.out) 0).trans (rfl : _ = some (Value.int .i64 0))
    have v1 := (heap_at (HZ.out) 1).trans (rfl : _ = some (Value.slice none 0 0))
    have v2 := (heap_at (HZ.out) 2).trans (rfl : _ = some (Value.string ⟨#[]⟩))
    have v3 := (heap_at (HZ.out) 3).trans (rfl : _ = some (Value.int .i64 0))
    have v4 := (heap_at (HZ.out) 4).trans (rfl : _ = some (Value.int .i64 0))
    have v5 := (heap_at (HZ.out) 5).trans (rfl : _ = some (Value.bool false))
    have v6 := (heap_at (HZ.out) 6).trans (rfl : _ = some (Value.string ⟨#[]⟩))
    have v7 := (heap_at (HZ.out) 7).trans (rfl : _ = some (Value.float .f64 0))
    have x0 := (heap_at (HNB.out) 0).trans (rfl : _ = some (Value.int .i64 0))
    have x1 := (heap_at (HNB.out) 1).trans (rfl : _ = some (Value.slice none 0 0))
    have x2 := (heap_at (HNB.out) 2).trans (rfl : _ = some (Value.string ⟨#[]⟩))
    have x3 := (heap_at (HNB.out) 3).trans (rfl : _ = some (Value.int .i64 0))
    have x4 := (heap_at (HNB.out) 4).trans (rfl : _ = some (Value.int .i64 0))
    have x5 := (heap_at (HNB.out) 5).trans (rfl : _ = some (Value.bool false))
    have x6 := (heap_at (HNB.out) 6).trans (rfl : _ = some (Value.string ⟨#[]⟩))
    have x7 := (heap_at (HNB.out) 7).trans (rfl : _ = some (Value.float .f64 0))
    have vf := heap_free HZ.out
    have vl : w.heap.size < wB.heap.size := (Array.getElem?_eq_some_iff.1 HZ.out).1
    go_wp2
    exact bodyPost_ret (v := .tuple #[agZ, .int .i64 er]) (by simp [results, Tryz.results15, go_sem, v0, v1, v2, v3, v4, v5, v6, v7, vl]) rfl (GyE.mk HRA.out HON.out HZ.out (Nat.le_refl _) hgl _ _ _ _ _ _ _ _)
  · have HC := Lib.hid (fun W h => show Calls _ _ _ _ (RgO g 6 (x, n', r') W) from HQ.out W h)
    clear HQ
    go_wp2_with fail
    refine (HC.out _ HR.out).mono ?_
    rintro _ wA ⟨A', c', rfl, hex, hrA, hoA⟩
    have hX := (hoA.block w.heap.size HWL.out (by intro e; injection e with e; omega)).trans HX.out
    have HZ := Lib.hid (((alloc1 wA (.cells #[.int .i64 x.op, .slice A' x.kids.length c', .string x.name, .int .i64 x.val.k, .int .i64 x.val.i, .bool x.val.b, .string x.val.s, .float .f64 x.val.n] 27)).block w.heap.size (Array.getElem?_eq_some_iff.1 hX).1).trans hX)
    have HRA := Lib.hid (hrA.below (alloc1 wA (.cells #[.int .i64 x.op, .slice A' x.kids.length c', .string x.name, .int .i64 x.val.k, .int .i64 x.val.i, .bool x.val.b, .string x.val.s, .float .f64 x.val.n] 27)))
    have HON := Lib.hid (Only.below (HO.out.trans hoA) (alloc1 wA (.cells #[.int .i64 x.op, .slice A' x.kids.length c', .string x.name, .int .i64 x.val.k, .int .i64 x.val.i, .bool x.val.b, .string x.val.s, .float .f64 x.val.n] 27)))
    have HNB := Lib.hid (heap_alloc_new wA (.cells #[.int .i64 x.op, .slice A' x.kids.length c', .string x.name, .int .i64 x.val.k, .int .i64 x.val.i, .bool x.val.b, .string x.val.s, .float .f64 x.val.n] 27))
    have HEX := Lib.hid (show ExS (fun b => w.heap.size < b) (wA.alloc (.cells #[.int .i64 x.op, .slice A' x.kids.length c', .string x.name, .int .i64 x.val.k, .int .i64 x.val.i, .bool x.val.b, .string x.val.s, .float .f64 x.val.n] 27)) 6 A' c' x from hex.move (fun b hb hl => ⟨(alloc1 wA (.cells #[.int .i64 x.op, .slice A' x.kids.length c', .string x.name, .int .i64 x.val.k, .int .i64 x.val.i, .bool x.val.b, .string x.val.s, .float .f64 x.val.n] 27)).block b hl, Nat.lt_of_lt_of_le HWL.out hb⟩) (alloc1 wA (.cells #[.int .i64 x.op, .slice A' x.kids.length c', .string x.name, .int .i64 x.val.k, .int .i64 x.val.i, .bool x.val.b, .string x.val.s, .float .f64 x.val.n] 27)).size)
    clear hrA hoA hX hge hg1 hex
    go_upto_region 4 with fail
    generalize wA.alloc (.cells #[.int .i64 x.op, .slice A' x.kids.length c', .string x.name, .int .i64 x.val.k, .int .i64 x.val.i, .bool x.val.b, .string x.val.s, .float .f64 x.val.n] 27) = wB at *
    generalize wA.heap.size = b5 at *
    have v0 := (heap_at (HZ.out) 0).trans (rfl : _ = some (Value.int .i64 0))
    have v1 := (heap_at (HZ.out) 1).trans (rfl : _ = some (Value.slice none 0 0))
    have v2 := (heap_at (HZ.out) 2).trans (rfl : _ = some (Value.string ⟨#[]⟩))
    have v3 := (heap_at (HZ.out) 3).trans (rfl : _ = some (Value.int .i64 0))
    have v4 := (heap_at (HZ.out) 4).trans (rfl : _ = some (Value.int .i64 0))
    have v5 := (heap_at (HZ.out) 5).trans (rfl : _ = some (Value.bool false))
    have v6 := (heap_at (HZ.out) 6).trans (rfl : _ = some (Value.string ⟨#[]⟩))
    have v7 := (heap_at (HZ.out) 7).trans (rfl : _ = some (Value.float .f64 0))
    have x0 := (heap_at (HNB.out) 0).trans (rfl : _ = some (Value.int .i64 x.op))
    have x1 := (heap_at (HNB.out) 1).trans (rfl : _ = some (Value.slice A' x.kids.length c'))
    have x2 := (heap_at (HNB.out) 2).trans (rfl : _ = some (Value.string x.name))
    have x3 := (heap_at (HNB.out) 3).trans (rfl : _ = some (Value.int .i64 x.val.k))
    have x4 := (heap_at (HNB.out) 4).trans (rfl : _ = some (Value.int .i64 x.val.i))
    have x5 := (heap_at (HNB.out) 5).trans (rfl : _ = some (Value.bool x.val.b))
    have x6 := (heap_at (HNB.out) 6).trans (rfl : _ = some (Value.string x.val.s))
    have x7 := (heap_at (HNB.out) 7).trans (rfl : _ = some (Value.float .f64 x.val.n))
    have vf := heap_free HZ.out
    have vl : w.heap.size < wB.heap.size := (Array.getElem?_eq_some_iff.1 HZ.out).1
    go_wp2
    exact bodyPost_ret (v := .tuple #[agX x.op A' x.kids.length c' x.name x.val, .int .i64 0]) (by simp [results, Tryz.results15, go_sem, v0, v1, v2, v3, v4, v5, v6, v7, vl]) rfl (GyO.mk (x := x) HEX.out HRA.out HON.out HZ.out (Nat.le_refl _) hgl _ _ _ _ _ _ _ _)
/-- Get of the document -/
theorem reGet_any (g : Nat) (rest : List UInt8) (e : Int) (w : World) (hr : RfS w g rest e) : Calls Tryz.prog 15 #[.pointer (some ⟨g, 0, none⟩)] w (GyP g (getXE rest e) w) := by
  by_cases he : e = 0
  · subst he
    rw [show getXE rest 0 = getX 6 24 rest from if_pos rfl]
    exact reGet_walk g rest _ w hr fun W h => rget_any g 6 24 6 rest W (by omega) (by decide) (by decide) (by decide) h
  · rw [show getXE rest e = .error e from if_neg he]
    exact reGet_late g rest e he w hr
end Go.Proofs.YtkhpgejammgolaaGreat

/- Layer 5: ExprCodes. (Made by gen/genecodes.py.) -/
namespace Go.Proofs.YtkhpgejammgolaaGreat
open Go.RowKit
set_option linter.unusedVariables false
set_option linter.unusedSimpArgs false
set_option maxRecDepth 20000

theorem exk_deep {w : World} : ∀ {d : Nat} {A : Option Addr} {c : Nat} {e : Ex}, ExK w d A c e → deepX d e
  | 0, _, _, _, h => False.elim h
  | d + 1, A, c, e, h => by
    obtain ⟨-, -, -, h4⟩ := h
    intro k hk
    obtain ⟨j, hj, rfl⟩ := List.getElem_of_mem hk
    obtain ⟨ad, A', c', -, -, -, h5⟩ := h4 j hj
    exact exk_deep h5
/-- what is read, or the zero one; the error -/
def xOf (X : Except Int (Ex × Int × List UInt8)) : Ex := match X with | .error _ => .mk 0 ⟨#[]⟩ vZero [] | .ok y => y.1
def eOf (X : Except Int (Ex × Int × List UInt8)) : Int := match X with | .error e => e | .ok _ => 0
def rOf (X : Except Int (Ex × Int × List UInt8)) : List UInt8 := match X with | .error _ => [] | .ok y => y.2.2
/-- both in one form -/
def GzP (g : Nat) (x : Ex) (er : Int) (r : List UInt8) (w : World) (e : Ending) (w' : World) : Prop := ∃ A c, e = .returned (.tuple #[agX x.op A x.kids.length c x.name x.val, .int .i64 er]) ∧ ExS (fun b => w.heap.size ≤ b) w' 6 A c x ∧ (∃ r' e', RdR w' g r' e' ∧ (er = 0 → r' = r)) ∧ Only g w w'
def GzR (g : Nat) (x : Ex) (er : Int) (r : List UInt8) (w : World) (e : Ending) (w' : World) : Prop := ∃ A c, e = .returned (.tuple #[agX x.op A x.kids.length c x.name x.val, .int .i64 er]) ∧ ExS (fun b => w.heap.size ≤ b) w' 6 A c x ∧ (∃ r' e', RfS w' g r' e' ∧ (er = 0 → r' = r)) ∧ Only g w w'
theorem GxP.z {g : Nat} {X : Except Int (Ex × Int × List UInt8)} (hX : ∀ e, X = .error e → e ≠ 0) {w : World} {e : Ending} {w' : World} (h : GxP g X w e w') : GzP g (xOf X) (eOf X) (rOf X) w e w' := by
  rcases X with er | y
  · obtain ⟨h1, ⟨r', e', h2⟩, h3⟩ := h
    exact ⟨none, 0, h1, ExS.leaf _ _ _ _ rfl, ⟨r', e', h2, fun h0 => absurd h0 (hX er rfl)⟩, h3⟩
  · obtain ⟨A, c, h1, h2, h3, h4⟩ := h
    exact ⟨A, c, h1, h2, ⟨_, _, h3, fun _ => rfl⟩, h4⟩
theorem GyP.z {g : Nat} {X : Except Int (Ex × Int × List UInt8)} (hX : ∀ e, X = .error e → e ≠ 0) {w : World} {e : Ending} {w' : World} (h : GyP g X w e w') : GzR g (xOf X) (eOf X) (rOf X) w e w' := by
  rcases X with er | y
  · obtain ⟨h1, ⟨r', e', h2⟩, h3⟩ := h
    exact ⟨none, 0, h1, ExS.leaf _ _ _ _ rfl, ⟨r', e', h2, fun h0 => absurd h0 (hX er rfl)⟩, h3⟩
  · obtain ⟨A, c, h1, h2, h3, h4⟩ := h
    exact ⟨A, c, h1, h2, ⟨_, _, h3, fun _ => rfl⟩, h4⟩
theorem getXE_er (rest : List UInt8) (e : Int) (h : getXE rest 0 = .error e) : e ≠ 0 := by
  rw [show getXE rest 0 = getX 6 24 rest from if_pos rfl] at h
  exact getX_er 6 24 rest e h

set_option maxHeartbeats 16000000 in
theorem ExprCodes_walk (D : Nat) (e : Ex) (A : Option Addr) (c : Nat) (b : Value) (l : List UInt8) (w : World) (hx : ExK w D A c e) (hok : okX 6 e) (htx : smallX e = true → txtX 6 e) (hb : Bs w b l) (hln : l.length ≤ 5000) (awk : ∀ W, Calls Tryz.prog 22 #[] W (VMk (.bool true) W))
    (sm lg : Bool) (hsl : (sm && lg) = false) (qs : ∀ W, Below w.heap.size w W → Calls Tryz.prog 11 #[agX e.op A e.kids.length c e.name e.val] W (VMk (.bool sm) W)) (ql : sm = true → ∀ W, Below w.heap.size w W → Calls Tryz.prog 12 #[agX e.op A e.kids.length c e.name e.val] W (VMk (.bool lg) W)) :
    Calls Tryz.prog 3 #[agX e.op A e.kids.length c e.name e.val, b] w (VMk (.bool true) w) := by
  obtain ⟨Ab, cb, rfl, hlc, hmc, -, hbx⟩ := hb.open
  have hold : l ≠ [] → ∀ k, (Value.slice Ab l.length cb).ownBlock = some k → k < w.heap.size := by
    intro hl k hk
    obtain ⟨ad, rfl, hlt, -⟩ := hbx hl
    injection hk with hk
    rw [← hk]
    exact hlt
  clear hbx
  have HB := Lib.hid hb
  have HO := Lib.hid hold
  have HX := Lib.hid hx
  clear hb hold hlc hmc
  have hl' : (l.length : Int) ≤ 5000 := by omega
  have hdl : decide ((5000 : Int) < (l.length : Int)) = false := decide_eq_false (by omega)
  have qn : ∀ W, Below w.heap.size w W → Calls Tryz.prog 13 #[.slice Ab l.length cb] W fun e w' => ∃ g, e = .returned (.pointer (some ⟨g, 0, none⟩)) ∧ W.heap.size ≤ g ∧ RdR w' g l 0 ∧ Below W.heap.size W w' :=
    fun W hw => New_any _ l W (Rd.below HB.out hw (Nat.le_refl _)) (by omega)
  have qg : ∀ g W, RdR W g l 0 → Calls Tryz.prog 14 #[.pointer (some ⟨g, 0, none⟩)] W (GzP g (xOf (getXE l 0)) (eOf (getXE l 0)) (rOf (getXE l 0)) W) :=
    fun g W h => (eGet_any g l 0 W h (by omega)).mono fun e w' h => GxP.z (getXE_er l) h
  have qr : ∀ g W, RfS W g l 0 → Calls Tryz.prog 15 #[.pointer (some ⟨g, 0, none⟩)] W (GzR g (xOf (getXE l 0)) (eOf (getXE l 0)) (rOf (getXE l 0)) W) :=
    fun g W h => (reGet_any g l 0 W h).mono fun e w' h => GyP.z (getXE_er l) h
  have e1 : ∀ W y, Below w.heap.size w W → Bs W y [9] → Calls Tryz.prog 17 #[y, agX e.op A e.kids.length c e.name e.val] W (fun e' w' => ∃ v', e' = .returned v' ∧ Bs w' v' ([9] ++ putE e) ∧ Below W.heap.size W w') := fun W y hW hy => (ePut_any D e A c y [9] W (hx.below hW (Nat.le_refl _)) htx hok hy (by decide)).mono fun e w' h => h.bs
  have e2 : ∀ W y, Below w.heap.size w W → Bs W y [9] → Calls Tryz.prog 18 #[y, agX e.op A e.kids.length c e.name e.val] W (fun e' w' => ∃ v', e' = .returned v' ∧ Bs w' v' ([9] ++ putE e) ∧ Below W.heap.size W w') := fun W y hW hy => (rePut_any D e A c y [9] W (hx.below hW (Nat.le_refl _)) htx hok hy (by decide)).mono fun e w' h => h.bs
  have e4 : ∀ W x y m, Bs W x m → Bs W y m → Calls Tryz.prog 16 #[x, y] W (VMk (.bool true) W) := fun W x y m hx hy => by
    have h := Same_any x y m m W hx hy
    rw [beq_self_eq_true] at h
    exact h.mono fun e w' h => ⟨h.1, h.2 ▸ Below.refl _ _⟩
  generalize xOf (getXE l 0) = x at *
  generalize eOf (getXE l 0) = er at *
  generalize rOf (getXE l 0) = r2 at *
  generalize [9] ++ putE e = out at *
  have QN := Lib.hid qn
  have QG := Lib.hid qg
  have QR := Lib.hid qr
  have E1w := Lib.hid e1
  have E2w := Lib.hid e2
  have E4 := Lib.hid e4
  have QS := Lib.hid qs
  have QL := Lib.hid ql
  have AWK := Lib.hid awk
  clear qn qg qr e1 e2 e4 hx hok htx qs ql awk
  generalize e.op = eop at *
  generalize e.name = enm at *
  generalize e.val = ev at *
  generalize e.kids.length = n at *
  have hkd := Kid_new w eop A n c enm ev
  have HK0 := Lib.hid hkd
  have HW0 := Lib.hid (alloc1 w (bxX eop A n c enm ev))
  clear hkd
  have hsf := fun (w : World) (a : Addr) (m : Mode) (b : Nat) => run_store Tryz.prog w a (.float .f64 b) m rfl
  go_enter Tryz.func3, Tryz.ntmps3
  go_upto_region 1 with fail
  generalize w.alloc (bxX eop A n c enm ev) = w0 at *
  go_cut [21] from 11 to 21 (fun s21 wx => s21 = .bool false ∧ Below w.heap.size w wx ∧ CellsX wx w.heap.size eop A n c enm ev)
  case first =>
    obtain ⟨x0, x1, x2, x3, x4, x5, x6, x7⟩ := HK0.out
    go_wp2_with fail
    refine (QS.out _ HW0.out).mono ?_
    rintro _ w1 ⟨rfl, hb1⟩
    clear x0 x1 x2 x3 x4 x5 x6 x7
    have HW1 := Lib.hid (bel2 HW0.out hb1)
    have HK1 := Lib.hid (HK0.out.below hb1)
    clear hb1
    rcases sm with _ | _
    · clear hsl
      go_wp2
      go_meet
      exact ⟨rfl, HW1.out, HK1.out⟩
    · have hlg : lg = false := by rw [Bool.true_and] at hsl; exact hsl
      subst hlg
      clear hsl
      obtain ⟨x0, x1, x2, x3, x4, x5, x6, x7⟩ := HK1.out
      go_wp2_with fail
      refine (QL.out (by trivial) _ HW1.out).mono ?_
      rintro _ w2 ⟨rfl, hb2⟩
      clear x0 x1 x2 x3 x4 x5 x6 x7
      go_wp2
      go_meet
      exact ⟨rfl, bel2 HW1.out hb2, HK1.out.below hb2⟩
  case rest =>
  obtain ⟨rfl, hw1, hk1⟩ := hcut
  have F2 := Lib.hid hw1
  have F1 := Lib.hid hk1
  clear hw1 hk1 HK0 HW0 QS QL hsl
  go_wp2_with fail
  refine (QN.out _ F2.out).mono ?_
  rintro e wd ⟨g, rfl, hgc, hrg, hbd⟩
  have hRO : Below wd.heap.size wd (wd.alloc (.cells #[.slice Ab l.length cb, .int .i64 0, .int .i64 0] 35)) := (Below.refl _ _).alloc (Nat.le_refl _) _
  have B1 := F2.out.trans (hbd.mono F2.out.size)
  have HR1 := Lib.hid (hrg.below hRO)
  have HT1 := Lib.hid (RfS.mkq wd _ l (Bs.bq (Rd.below HB.out B1 (Nat.le_refl _)) (fun hl k hk => Nat.lt_of_lt_of_le (HO.out hl k hk) B1.size)) (by omega) wd.heap.size rfl)
  have HX1 := Lib.hid ((F1.out.below hbd).below hRO)
  have HL1 := Lib.hid (B1.trans (hRO.mono B1.size))
  have hgw : w.heap.size ≤ g := Nat.le_trans F2.out.size hgc
  have hgb : w.heap.size < wc.heap.size := World.block_lt_of_cell? wc _ F1.out.1
  have hgd : g < wd.heap.size := hrg.lt
  have hws : w.heap.size < wd.heap.size := Nat.lt_of_lt_of_le hgb hbd.size
  have hbg : w.heap.size ≠ g := by omega
  have hbs : w.heap.size ≠ wd.heap.size := by omega
  have HSD := Lib.hid (show wd.heap.size < (wd.alloc (.cells #[.slice Ab l.length cb, .int .i64 0, .int .i64 0] 35)).heap.size from by simp)
  clear hrg hbd hRO B1 F1 F2 hgc hgb
  go_upto_region 4 with fail
  generalize wd.alloc (.cells #[.slice Ab l.length cb, .int .i64 0, .int .i64 0] 35) = we at *
  generalize wd.heap.size = s at *
  go_wp2_with fail
  refine (QG.out g we HR1.out).mono ?_
  rintro e wf ⟨A1, c1, rfl, hex, ⟨r', e', hr2, hre⟩, ho⟩
  have HT2 := Lib.hid (HT1.out.offP HR1.out ho (by omega))
  have HX2 := Lib.hid (show CellsX wf w.heap.size eop A n c enm ev from Kid.at (p := ⟨w.heap.size, 0, none⟩) HX1.out (ho.block w.heap.size (World.block_lt_of_cell? we _ HX1.out.1) (by intro e; injection e with e; exact hbg e)))
  have HL2 := Lib.hid (HL1.out.trans (ho.to_below HL1.out.size hgw))
  have hlx : Below wf.heap.size wf (wf.alloc (bxX x.op A1 x.kids.length c1 x.name x.val)) := alloc1 _ _
  have HT3 := Lib.hid (HT2.out.below hlx)
  have HX3 := Lib.hid (HX2.out.below hlx)
  have HL3 := Lib.hid (HL2.out.trans (hlx.mono HL2.out.size))
  have HR3 := Lib.hid (hr2.below hlx)
  have HRE := Lib.hid hre
  have HY3 := Lib.hid (Kid_new wf x.op A1 x.kids.length c1 x.name x.val)
  have HE3 := Lib.hid (show ExS (fun b => s < b) (wf.alloc (bxX x.op A1 x.kids.length c1 x.name x.val)) 6 A1 c1 x from hex.move (fun b hb hl => ⟨hlx.block b hl, Nat.lt_of_lt_of_le HSD.out hb⟩) hlx.size)
  have hsx : s < wf.heap.size := HT2.out.lt
  have hsy : wf.heap.size ≠ s := by omega
  clear hr2 ho hlx HT2 HX2 HL2 HT1 HX1 HL1 HR1 hex hre HSD
  go_upto_region 5 with fail
  generalize wf.alloc (bxX x.op A1 x.kids.length c1 x.name x.val) = wg at *
  generalize wf.heap.size = bx at *
  go_wp2_with fail
  refine (QR.out s wg HT3.out).mono ?_
  rintro e wh ⟨A2, c2, rfl, hex, ⟨r3, e3, ht2, hre⟩, ho⟩
  have HR4 := Lib.hid (HR3.out.offR HT3.out ho (by omega))
  have HX4 := Lib.hid (show CellsX wh w.heap.size eop A n c enm ev from Kid.at (p := ⟨w.heap.size, 0, none⟩) HX3.out (ho.block w.heap.size (World.block_lt_of_cell? wg _ HX3.out.1) (by intro e; injection e with e; exact hbs e)))
  have HY4 := Lib.hid (show CellsX wh bx x.op A1 x.kids.length c1 x.name x.val from Kid.at (p := ⟨bx, 0, none⟩) HY3.out (ho.block bx (World.block_lt_of_cell? wg _ HY3.out.1) (by intro e; injection e with e; exact hsy e)))
  have HE4 := Lib.hid (show ExK wh 6 A1 c1 x from (HE3.out.move (T := fun _ => True) (fun b hb hl => ⟨ho.block b hl (by intro e; injection e with e; omega), trivial⟩) ho.size).exk)
  have HL4 := Lib.hid (HL3.out.trans (ho.to_below HL3.out.size (by omega)))
  have hlx : Below wh.heap.size wh (wh.alloc (bxX x.op A2 x.kids.length c2 x.name x.val)) := alloc1 _ _
  have HT5 := Lib.hid (ht2.below hlx)
  have HR5 := Lib.hid (HR4.out.below hlx)
  have HX5 := Lib.hid (HX4.out.below hlx)
  have HY5 := Lib.hid (HY4.out.below hlx)
  have HL5 := Lib.hid (HL4.out.trans (hlx.mono HL4.out.size))
  have HZ5 := Lib.hid (Kid_new wh x.op A2 x.kids.length c2 x.name x.val)
  have HE5 := Lib.hid (HE4.out.below hlx (Nat.le_refl _))
  have HF5 := Lib.hid (hex.exk.below hlx (Nat.le_refl _))
  have HRF := Lib.hid hre
  clear ht2 ho hlx HR3 HX3 HY3 HL3 HR4 HX4 HY4 HL4 HT3 HE3 HE4 hex hre
  go_upto_region 6 with fail
  generalize wh.alloc (bxX x.op A2 x.kids.length c2 x.name x.val) = wi at *
  generalize wh.heap.size = bz at *
  have q1 : er = 0 → ∀ W, Below wi.heap.size wi W → Calls Tryz.prog 20 #[.pointer (some ⟨g, 0, none⟩)] W (VMk (.int .i64 r2.length) W) := fun h0 W hw => by
    have h := Left_any g r' e' W (HR5.out.below hw)
    rw [HRE.out h0] at h
    exact h.mono fun e w' h => ⟨h.1, h.2 ▸ Below.refl _ _⟩
  have q2 : er = 0 → ∀ W, Below wi.heap.size wi W → Calls Tryz.prog 21 #[.pointer (some ⟨s, 0, none⟩)] W (VMk (.int .i64 r2.length) W) := fun h0 W hw => by
    have h := rfLeft_any s r3 e3 W (HT5.out.below hw)
    rw [HRF.out h0] at h
    exact h.mono fun e w' h => ⟨h.1, by obtain ⟨n, hn⟩ := h.2; rw [hn]; exact below_drewN (Below.refl _ _) n⟩
  have Q1q := Lib.hid q1
  have Q2q := Lib.hid q2
  have E1 := Lib.hid (fun W y (hW : Below wi.heap.size wi W) hy => E1w.out W y (HL5.out.trans (hW.mono HL5.out.size)) hy)
  have E2 := Lib.hid (fun W y (hW : Below wi.heap.size wi W) hy => E2w.out W y (HL5.out.trans (hW.mono HL5.out.size)) hy)
  have e3 : ∀ W, Below wi.heap.size wi W → Calls Tryz.prog 19 #[agX x.op A1 x.kids.length c1 x.name x.val, agX x.op A2 x.kids.length c2 x.name x.val] W (VMk (.bool true) W) := fun W hW => by
    have h := rSameX_any 6 6 6 x x A1 A2 c1 c2 W (HE5.out.below hW (Nat.le_refl _)) (HF5.out.below hW (Nat.le_refl _)) (exk_deep HE5.out)
    rwa [sameX_refl] at h
  have E3 := Lib.hid e3
  have hall : ∀ W, Below wi.heap.size wi W → Below wi.heap.size wi W ∧ CellsX W w.heap.size eop A n c enm ev ∧ CellsX W bx x.op A1 x.kids.length c1 x.name x.val ∧ CellsX W bz x.op A2 x.kids.length c2 x.name x.val := fun W hW => ⟨hW, HX5.out.below hW, HY5.out.below hW, HZ5.out.below hW⟩
  unfold CellsX at hall
  have hS0 := hall wi.drew (Below.refl _ _).drew
  have HS0 := Lib.hid hS0
  have HKA := Lib.hid (fun (W : World) (o : Obj) (h : Below wi.heap.size wi W ∧ (W.cell? ⟨w.heap.size, 0, none⟩ = some (.int .i64 eop) ∧ W.cell? ⟨w.heap.size, 1, none⟩ = some (.slice A n c) ∧ W.cell? ⟨w.heap.size, 2, none⟩ = some (.string enm) ∧ W.cell? ⟨w.heap.size, 3, none⟩ = some (.int .i64 ev.k) ∧ W.cell? ⟨w.heap.size, 4, none⟩ = some (.int .i64 ev.i) ∧ W.cell? ⟨w.heap.size, 5, none⟩ = some (.bool ev.b) ∧ W.cell? ⟨w.heap.size, 6, none⟩ = some (.string ev.s) ∧ W.cell? ⟨w.heap.size, 7, none⟩ = some (.float .f64 ev.n)) ∧ (W.cell? ⟨bx, 0, none⟩ = some (.int .i64 x.op) ∧ W.cell? ⟨bx, 1, none⟩ = some (.slice A1 x.kids.length c1) ∧ W.cell? ⟨bx, 2, none⟩ = some (.string x.name) ∧ W.cell? ⟨bx, 3, none⟩ = some (.int .i64 x.val.k) ∧ W.cell? ⟨bx, 4, none⟩ = some (.int .i64 x.val.i) ∧ W.cell? ⟨bx, 5, none⟩ = some (.bool x.val.b) ∧ W.cell? ⟨bx, 6, none⟩ = some (.string x.val.s) ∧ W.cell? ⟨bx, 7, none⟩ = some (.float .f64 x.val.n)) ∧ (W.cell? ⟨bz, 0, none⟩ = some (.int .i64 x.op) ∧ W.cell? ⟨bz, 1, none⟩ = some (.slice A2 x.kids.length c2) ∧ W.cell? ⟨bz, 2, none⟩ = some (.string x.name) ∧ W.cell? ⟨bz, 3, none⟩ = some (.int .i64 x.val.k) ∧ W.cell? ⟨bz, 4, none⟩ = some (.int .i64 x.val.i) ∧ W.cell? ⟨bz, 5, none⟩ = some (.bool x.val.b) ∧ W.cell? ⟨bz, 6, none⟩ = some (.string x.val.s) ∧ W.cell? ⟨bz, 7, none⟩ = some (.float .f64 x.val.n))) => hall (W.alloc o) (bel2 h.1 (alloc1 W o)))
  have HK := Lib.hid (fun (W W' : World) (h : Below wi.heap.size wi W ∧ (W.cell? ⟨w.heap.size, 0, none⟩ = some (.int .i64 eop) ∧ W.cell? ⟨w.heap.size, 1, none⟩ = some (.slice A n c) ∧ W.cell? ⟨w.heap.size, 2, none⟩ = some (.string enm) ∧ W.cell? ⟨w.heap.size, 3, none⟩ = some (.int .i64 ev.k) ∧ W.cell? ⟨w.heap.size, 4, none⟩ = some (.int .i64 ev.i) ∧ W.cell? ⟨w.heap.size, 5, none⟩ = some (.bool ev.b) ∧ W.cell? ⟨w.heap.size, 6, none⟩ = some (.string ev.s) ∧ W.cell? ⟨w.heap.size, 7, none⟩ = some (.float .f64 ev.n)) ∧ (W.cell? ⟨bx, 0, none⟩ = some (.int .i64 x.op) ∧ W.cell? ⟨bx, 1, none⟩ = some (.slice A1 x.kids.length c1) ∧ W.cell? ⟨bx, 2, none⟩ = some (.string x.name) ∧ W.cell? ⟨bx, 3, none⟩ = some (.int .i64 x.val.k) ∧ W.cell? ⟨bx, 4, none⟩ = some (.int .i64 x.val.i) ∧ W.cell? ⟨bx, 5, none⟩ = some (.bool x.val.b) ∧ W.cell? ⟨bx, 6, none⟩ = some (.string x.val.s) ∧ W.cell? ⟨bx, 7, none⟩ = some (.float .f64 x.val.n)) ∧ (W.cell? ⟨bz, 0, none⟩ = some (.int .i64 x.op) ∧ W.cell? ⟨bz, 1, none⟩ = some (.slice A2 x.kids.length c2) ∧ W.cell? ⟨bz, 2, none⟩ = some (.string x.name) ∧ W.cell? ⟨bz, 3, none⟩ = some (.int .i64 x.val.k) ∧ W.cell? ⟨bz, 4, none⟩ = some (.int .i64 x.val.i) ∧ W.cell? ⟨bz, 5, none⟩ = some (.bool x.val.b) ∧ W.cell? ⟨bz, 6, none⟩ = some (.string x.val.s) ∧ W.cell? ⟨bz, 7, none⟩ = some (.float .f64 x.val.n))) (hb : Below W.heap.size W W') => hall W' (bel2 h.1 hb))
  clear q1 q2 e3 hall E1w E2w HT5 HR5 HX5 HY5 HZ5 HE5 HF5 HRE HRF QN QG QR hS0
  have hS0 := HS0.out
  clear HS0
  have herr : (er == er) = true := by simp
  by_cases h0 : er = 0
  · subst h0
    have Q1 := Lib.hid (Q1q.out rfl)
    have Q2 := Lib.hid (Q2q.out rfl)
    clear Q1q Q2q
    refine wp_region_held_drew (S := (fun W => Below wi.heap.size wi W ∧ (W.cell? ⟨w.heap.size, 0, none⟩ = some (.int .i64 eop) ∧ W.cell? ⟨w.heap.size, 1, none⟩ = some (.slice A n c) ∧ W.cell? ⟨w.heap.size, 2, none⟩ = some (.string enm) ∧ W.cell? ⟨w.heap.size, 3, none⟩ = some (.int .i64 ev.k) ∧ W.cell? ⟨w.heap.size, 4, none⟩ = some (.int .i64 ev.i) ∧ W.cell? ⟨w.heap.size, 5, none⟩ = some (.bool ev.b) ∧ W.cell? ⟨w.heap.size, 6, none⟩ = some (.string ev.s) ∧ W.cell? ⟨w.heap.size, 7, none⟩ = some (.float .f64 ev.n)) ∧ (W.cell? ⟨bx, 0, none⟩ = some (.int .i64 x.op) ∧ W.cell? ⟨bx, 1, none⟩ = some (.slice A1 x.kids.length c1) ∧ W.cell? ⟨bx, 2, none⟩ = some (.string x.name) ∧ W.cell? ⟨bx, 3, none⟩ = some (.int .i64 x.val.k) ∧ W.cell? ⟨bx, 4, none⟩ = some (.int .i64 x.val.i) ∧ W.cell? ⟨bx, 5, none⟩ = some (.bool x.val.b) ∧ W.cell? ⟨bx, 6, none⟩ = some (.string x.val.s) ∧ W.cell? ⟨bx, 7, none⟩ = some (.float .f64 x.val.n)) ∧ (W.cell? ⟨bz, 0, none⟩ = some (.int .i64 x.op) ∧ W.cell? ⟨bz, 1, none⟩ = some (.slice A2 x.kids.length c2) ∧ W.cell? ⟨bz, 2, none⟩ = some (.string x.name) ∧ W.cell? ⟨bz, 3, none⟩ = some (.int .i64 x.val.k) ∧ W.cell? ⟨bz, 4, none⟩ = some (.int .i64 x.val.i) ∧ W.cell? ⟨bz, 5, none⟩ = some (.bool x.val.b) ∧ W.cell? ⟨bz, 6, none⟩ = some (.string x.val.s) ∧ W.cell? ⟨bz, 7, none⟩ = some (.float .f64 x.val.n)))) (by kernel_rfl) (hS0) (fun hHeld => ?_)
    refine wpAnyH_take (i := 1) (oi := ?oi92) (v := ?v92) ?hi92 (by kernel_rfl) (by kernel_rfl) (by kernel_rfl) ?hQ92 (Or.inl ⟨?hw92, ?hy92⟩) (by assumption) ?rest92
    case hi92 => (simp only [gA, gB, gC]; rfl)
    case hQ92 => exact fun _ _ _ h => h
    case hw92 => rfl
    case hy92 => (intro w hSw; (try dsimp only at hSw); go_simp; try with_reducible rfl)
    (try simp only [Act.put, sA, sB, sC])
    refine wpAnyH_take (i := 4) (oi := ?oi93) (v := ?v93) ?hi93 (by kernel_rfl) (by kernel_rfl) (by kernel_rfl) ?hQ93 (Or.inl ⟨?hw93, ?hy93⟩) (by assumption) ?rest93
    case hi93 => (simp only [gA, gB, gC]; rfl)
    case hQ93 => exact fun _ _ _ h => h
    case hw93 => rfl
    case hy93 => (intro w hSw; (try dsimp only at hSw); go_simp; try with_reducible rfl)
    (try simp only [Act.put, sA, sB, sC])
    refine wpAnyH_ready (rs := [0, 3]) (by kernel_rfl) (by simp) ?_
    refine AllReadyH.cons (o := ?o94) ?ho94 (fun K hK => ?st94) (AllReadyH.cons (o := ?o95) ?ho95 (fun K hK => ?st95) AllReadyH.nil)
    case ho94 => (simp only [gA, gB, gC]; rfl)
    case ho95 => (simp only [gA, gB, gC]; rfl)
    ·
     go_simp
     refine hK.out _ _ ?_ (fun hHeld => ?_)
     · (try dsimp only); (first | exact HKA.out _ _ (by assumption) | exact HK.out _ _ (by assumption) hbA | exact HK.out _ _ (by assumption) hbB | exact HK.out _ _ (by assumption) hbC | exact HK.out _ _ (by assumption) hbD | exact HK.out _ _ (by assumption) hbE | exact HK.out _ _ (by assumption) hbF | exact HK.out _ _ (by assumption) hbG)
     clear hK K
     (try simp only [Act.put, sA, sB, sC])
     refine wpAnyH_ready (rs := [2, 3]) (by kernel_rfl) (by simp) ?_
     refine AllReadyH.cons (o := ?o96) ?ho96 (fun K hK => ?st96) (AllReadyH.cons (o := ?o97) ?ho97 (fun K hK => ?st97) AllReadyH.nil)
     case ho96 => (simp only [gA, gB, gC]; rfl)
     case ho97 => (simp only [gA, gB, gC]; rfl)
     ·
      go_simp
      refine (E1.out _ _ (And.left hHeld) (by first | exact nine_bs _ | exact nine_one _ _ | (refine Bs.alloc ?_ _; exact nine_bs _))).mono ?_; rintro e wA ⟨vA, rfl, hsA, hbA⟩
      refine hK.out _ _ ?_ (fun hHeld => ?_)
      · (try dsimp only); (first | exact HKA.out _ _ (by assumption) | exact HK.out _ _ (by assumption) hbA | exact HK.out _ _ (by assumption) hbB | exact HK.out _ _ (by assumption) hbC | exact HK.out _ _ (by assumption) hbD | exact HK.out _ _ (by assumption) hbE | exact HK.out _ _ (by assumption) hbF | exact HK.out _ _ (by assumption) hbG)
      clear hK K
      (try simp only [Act.put, sA, sB, sC])
      refine wpAnyH_ready (rs := [3]) (by kernel_rfl) (by simp) ?_
      refine AllReadyH.cons (o := ?o98) ?ho98 (fun K hK => ?st98) AllReadyH.nil
      case ho98 => (simp only [gA, gB, gC]; rfl)
      go_simp
      refine hK.out _ _ ?_ (fun hHeld => ?_)
      · (try dsimp only); (first | exact HKA.out _ _ (by assumption) | exact HK.out _ _ (by assumption) hbA | exact HK.out _ _ (by assumption) hbB | exact HK.out _ _ (by assumption) hbC | exact HK.out _ _ (by assumption) hbD | exact HK.out _ _ (by assumption) hbE | exact HK.out _ _ (by assumption) hbF | exact HK.out _ _ (by assumption) hbG)
      clear hK K
      (try simp only [Act.put, sA, sB, sC])
      refine wpAnyH_ready (rs := [5]) (by kernel_rfl) (by simp) ?_
      refine AllReadyH.cons (o := ?o99) ?ho99 (fun K hK => ?st99) AllReadyH.nil
      case ho99 => (simp only [gA, gB, gC]; rfl)
      go_simp
      refine (E2.out _ _ (And.left hHeld) (by first | exact nine_bs _ | (refine Bs.below ?_ hbA (Nat.le_refl _); first | exact nine_bs _ | exact nine_one _ _ | (refine Bs.alloc ?_ _; exact nine_bs _)))).mono ?_; rintro e wB ⟨vB, rfl, hsB, hbB⟩
      refine hK.out _ _ ?_ (fun hHeld => ?_)
      · (try dsimp only); (first | exact HKA.out _ _ (by assumption) | exact HK.out _ _ (by assumption) hbA | exact HK.out _ _ (by assumption) hbB | exact HK.out _ _ (by assumption) hbC | exact HK.out _ _ (by assumption) hbD | exact HK.out _ _ (by assumption) hbE | exact HK.out _ _ (by assumption) hbF | exact HK.out _ _ (by assumption) hbG)
      clear hK K
      (try simp only [Act.put, sA, sB, sC])
      refine wpAnyH_ready (rs := [6]) (by kernel_rfl) (by simp) ?_
      refine AllReadyH.cons (o := ?o100) ?ho100 (fun K hK => ?st100) AllReadyH.nil
      case ho100 => (simp only [gA, gB, gC]; rfl)
      go_simp
      refine (E4.out _ _ _ out (by first | exact hsA.below hbB (Nat.le_refl _) | exact (hsA.alloc _).below hbB (Nat.le_refl _)) hsB).mono ?_; rintro e wC ⟨rfl, hbC⟩
      refine hK.out _ _ ?_ (fun hHeld => ?_)
      · (try dsimp only); (first | exact HKA.out _ _ (by assumption) | exact HK.out _ _ (by assumption) hbA | exact HK.out _ _ (by assumption) hbB | exact HK.out _ _ (by assumption) hbC | exact HK.out _ _ (by assumption) hbD | exact HK.out _ _ (by assumption) hbE | exact HK.out _ _ (by assumption) hbF | exact HK.out _ _ (by assumption) hbG)
      clear hK K
      (try simp only [Act.put, sA, sB, sC])
      refine wpAnyH_take (i := 7) (oi := ?oi101) (v := ?v101) ?hi101 (by kernel_rfl) (by kernel_rfl) (by kernel_rfl) ?hQ101 (Or.inl ⟨?hw101, ?hy101⟩) (by assumption) ?rest101
      case hi101 => (simp only [gA, gB, gC]; rfl)
      case hQ101 => exact fun _ _ _ h => h
      case hw101 => rfl
      case hy101 => (intro w hSw; (try dsimp only at hSw); go_simp; try with_reducible rfl)
      (try simp only [Act.put, sA, sB, sC])
      refine wpAnyH_take (i := 8) (oi := ?oi102) (v := ?v102) ?hi102 (by kernel_rfl) (by kernel_rfl) (by kernel_rfl) ?hQ102 (Or.inl ⟨?hw102, ?hy102⟩) (by assumption) ?rest102
      case hi102 => (simp only [gA, gB, gC]; rfl)
      case hQ102 => exact fun _ _ _ h => h
      case hw102 => rfl
      case hy102 => (intro w hSw; (try dsimp only at hSw); go_simp; try with_reducible rfl)
      (try simp only [Act.put, sA, sB, sC])
      refine wpAnyH_take (i := 9) (oi := ?oi103) (v := ?v103) ?hi103 (by kernel_rfl) (by kernel_rfl) (by kernel_rfl) ?hQ103 (Or.inl ⟨?hw103, ?hy103⟩) (by assumption) ?rest103
      case hi103 => (simp only [gA, gB, gC]; rfl)
      case hQ103 => exact fun _ _ _ h => h
      case hw103 => rfl
      case hy103 => (intro w hSw; (try dsimp only at hSw); go_simp; try with_reducible rfl)
      (try simp only [Act.put, sA, sB, sC])
      refine wpAnyH_ready (rs := [10]) (by kernel_rfl) (by simp) ?_
      refine AllReadyH.cons (o := ?o104) ?ho104 (fun K hK => ?st104) AllReadyH.nil
      case ho104 => (simp only [gA, gB, gC]; rfl)
      go_simp
      refine (E3.out _ (And.left hHeld)).mono ?_; rintro e wD ⟨rfl, hbD⟩
      refine hK.out _ _ ?_ (fun hHeld => ?_)
      · (try dsimp only); (first | exact HKA.out _ _ (by assumption) | exact HK.out _ _ (by assumption) hbA | exact HK.out _ _ (by assumption) hbB | exact HK.out _ _ (by assumption) hbC | exact HK.out _ _ (by assumption) hbD | exact HK.out _ _ (by assumption) hbE | exact HK.out _ _ (by assumption) hbF | exact HK.out _ _ (by assumption) hbG)
      clear hK K
      (try simp only [Act.put, sA, sB, sC])
      refine wpAnyH_take (i := 11) (oi := ?oi105) (v := ?v105) ?hi105 (by kernel_rfl) (by kernel_rfl) (by kernel_rfl) ?hQ105 (Or.inl ⟨?hw105, ?hy105⟩) (by assumption) ?rest105
      case hi105 => (simp only [gA, gB, gC]; rfl)
      case hQ105 => exact fun _ _ _ h => h
      case hw105 => rfl
      case hy105 => (intro w hSw; (try dsimp only at hSw); go_simp; try with_reducible rfl)
      (try simp only [Act.put, sA, sB, sC])
      refine wpAnyH_take (i := 12) (oi := ?oi106) (v := ?v106) ?hi106 (by kernel_rfl) (by kernel_rfl) (by kernel_rfl) ?hQ106 (Or.inl ⟨?hw106, ?hy106⟩) (by assumption) ?rest106
      case hi106 => (simp only [gA, gB, gC]; rfl)
      case hQ106 => exact fun _ _ _ h => h
      case hw106 => rfl
      case hy106 => (intro w hSw; (try dsimp only at hSw); go_simp; try with_reducible rfl)
      (try simp only [Act.put, sA, sB, sC])
      refine wpAnyH_take (i := 13) (oi := ?oi107) (v := ?v107) ?hi107 (by kernel_rfl) (by kernel_rfl) (by kernel_rfl) ?hQ107 (Or.inl ⟨?hw107, ?hy107⟩) (by assumption) ?rest107
      case hi107 => (simp only [gA, gB, gC]; rfl)
      case hQ107 => exact fun _ _ _ h => h
      case hw107 => rfl
      case hy107 => (intro w hSw; (try dsimp only at hSw); go_simp; try with_reducible rfl)
      (try simp only [Act.put, sA, sB, sC])
      refine wpAnyH_take (i := 14) (oi := ?oi108) (v := ?v108) ?hi108 (by kernel_rfl) (by kernel_rfl) (by kernel_rfl) ?hQ108 (Or.inl ⟨?hw108, ?hy108⟩) (by assumption) ?rest108
      case hi108 => (simp only [gA, gB, gC]; rfl)
      case hQ108 => exact fun _ _ _ h => h
      case hw108 => rfl
      case hy108 => (intro w hSw; (try dsimp only at hSw); go_simp; try with_reducible rfl)
      (try simp only [Act.put, sA, sB, sC])
      refine wpAnyH_take (i := 15) (oi := ?oi109) (v := ?v109) ?hi109 (by kernel_rfl) (by kernel_rfl) (by kernel_rfl) ?hQ109 (Or.inl ⟨?hw109, ?hy109⟩) (by assumption) ?rest109
      case hi109 => (simp only [gA, gB, gC]; rfl)
      case hQ109 => exact fun _ _ _ h => h
      case hw109 => rfl
      case hy109 => (intro w hSw; (try dsimp only at hSw); go_simp; try with_reducible rfl)
      (try simp only [Act.put, sA, sB, sC])
      refine wpAnyH_take (i := 16) (oi := ?oi110) (v := ?v110) ?hi110 (by kernel_rfl) (by kernel_rfl) (by kernel_rfl) ?hQ110 (Or.inl ⟨?hw110, ?hy110⟩) (by assumption) ?rest110
      case hi110 => (simp only [gA, gB, gC]; rfl)
      case hQ110 => exact fun _ _ _ h => h
      case hw110 => rfl
      case hy110 => (intro w hSw; (try dsimp only at hSw); go_simp; try with_reducible rfl)
      (try simp only [Act.put, sA, sB, sC])
      refine wpAnyH_take (i := 17) (oi := ?oi111) (v := ?v111) ?hi111 (by kernel_rfl) (by kernel_rfl) (by kernel_rfl) ?hQ111 (Or.inl ⟨?hw111, ?hy111⟩) (by assumption) ?rest111
      case hi111 => (simp only [gA, gB, gC]; rfl)
      case hQ111 => exact fun _ _ _ h => h
      case hw111 => rfl
      case hy111 => (intro w hSw; (try dsimp only at hSw); go_simp; try with_reducible rfl)
      (try simp only [Act.put, sA, sB, sC])
      refine wpAnyH_take (i := 18) (oi := ?oi112) (v := ?v112) ?hi112 (by kernel_rfl) (by kernel_rfl) (by kernel_rfl) ?hQ112 (Or.inl ⟨?hw112, ?hy112⟩) (by assumption) ?rest112
      case hi112 => (simp only [gA, gB, gC]; rfl)
      case hQ112 => exact fun _ _ _ h => h
      case hw112 => rfl
      case hy112 => (intro w hSw; (try dsimp only at hSw); go_simp; try with_reducible rfl)
      (try simp only [Act.put, sA, sB, sC])
      refine wpAnyH_take (i := 19) (oi := ?oi113) (v := ?v113) ?hi113 (by kernel_rfl) (by kernel_rfl) (by kernel_rfl) ?hQ113 (Or.inl ⟨?hw113, ?hy113⟩) (by assumption) ?rest113
      case hi113 => (simp only [gA, gB, gC]; rfl)
      case hQ113 => exact fun _ _ _ h => h
      case hw113 => rfl
      case hy113 => (intro w hSw; (try dsimp only at hSw); go_simp; try with_reducible rfl)
      (try simp only [Act.put, sA, sB, sC])
      refine wpAnyH_take (i := 20) (oi := ?oi114) (v := ?v114) ?hi114 (by kernel_rfl) (by kernel_rfl) (by kernel_rfl) ?hQ114 (Or.inl ⟨?hw114, ?hy114⟩) (by assumption) ?rest114
      case hi114 => (simp only [gA, gB, gC]; rfl)
      case hQ114 => exact fun _ _ _ h => h
      case hw114 => rfl
      case hy114 => (intro w hSw; (try dsimp only at hSw); go_simp; try with_reducible rfl)
      (try simp only [Act.put, sA, sB, sC])
      refine wpAnyH_take (i := 21) (oi := ?oi115) (v := ?v115) ?hi115 (by kernel_rfl) (by kernel_rfl) (by kernel_rfl) ?hQ115 (Or.inl ⟨?hw115, ?hy115⟩) (by assumption) ?rest115
      case hi115 => (simp only [gA, gB, gC]; rfl)
      case hQ115 => exact fun _ _ _ h => h
      case hw115 => rfl
      case hy115 => (intro w hSw; (try dsimp only at hSw); go_simp; try with_reducible rfl)
      (try simp only [Act.put, sA, sB, sC])
      refine wpAnyH_take (i := 23) (oi := ?oi116) (v := ?v116) ?hi116 (by kernel_rfl) (by kernel_rfl) (by kernel_rfl) ?hQ116 (Or.inl ⟨?hw116, ?hy116⟩) (by assumption) ?rest116
      case hi116 => (simp only [gA, gB, gC]; rfl)
      case hQ116 => exact fun _ _ _ h => h
      case hw116 => rfl
      case hy116 => (intro w hSw; (try dsimp only at hSw); go_simp; try with_reducible rfl)
      (try simp only [Act.put, sA, sB, sC])
      refine wpAnyH_ready (rs := [22]) (by kernel_rfl) (by simp) ?_
      refine AllReadyH.cons (o := ?o117) ?ho117 (fun K hK => ?st117) AllReadyH.nil
      case ho117 => (simp only [gA, gB, gC]; rfl)
      go_simp
      refine (Q1.out _ (And.left hHeld)).mono ?_; rintro e wE ⟨rfl, hbE⟩
      refine hK.out _ _ ?_ (fun hHeld => ?_)
      · (try dsimp only); (first | exact HKA.out _ _ (by assumption) | exact HK.out _ _ (by assumption) hbA | exact HK.out _ _ (by assumption) hbB | exact HK.out _ _ (by assumption) hbC | exact HK.out _ _ (by assumption) hbD | exact HK.out _ _ (by assumption) hbE | exact HK.out _ _ (by assumption) hbF | exact HK.out _ _ (by assumption) hbG)
      clear hK K
      (try simp only [Act.put, sA, sB, sC])
      refine wpAnyH_ready (rs := [24]) (by kernel_rfl) (by simp) ?_
      refine AllReadyH.cons (o := ?o118) ?ho118 (fun K hK => ?st118) AllReadyH.nil
      case ho118 => (simp only [gA, gB, gC]; rfl)
      go_simp
      refine (Q2.out _ (And.left hHeld)).mono ?_; rintro e wF ⟨rfl, hbF⟩
      refine hK.out _ _ ?_ (fun hHeld => ?_)
      · (try dsimp only); (first | exact HKA.out _ _ (by assumption) | exact HK.out _ _ (by assumption) hbA | exact HK.out _ _ (by assumption) hbB | exact HK.out _ _ (by assumption) hbC | exact HK.out _ _ (by assumption) hbD | exact HK.out _ _ (by assumption) hbE | exact HK.out _ _ (by assumption) hbF | exact HK.out _ _ (by assumption) hbG)
      clear hK K
      (try simp only [Act.put, sA, sB, sC])
      refine wpAnyH_take (i := 25) (oi := ?oi119) (v := ?v119) ?hi119 (by kernel_rfl) (by kernel_rfl) (by kernel_rfl) ?hQ119 (Or.inl ⟨?hw119, ?hy119⟩) (by assumption) ?rest119
      case hi119 => (simp only [gA, gB, gC]; rfl)
      case hQ119 => exact fun _ _ _ h => h
      case hw119 => rfl
      case hy119 => (intro w hSw; (try dsimp only at hSw); go_simp; try with_reducible rfl)
      (try simp only [Act.put, sA, sB, sC])
      refine wpAnyH_take (i := 26) (oi := ?oi120) (v := ?v120) ?hi120 (by kernel_rfl) (by kernel_rfl) (by kernel_rfl) ?hQ120 (Or.inl ⟨?hw120, ?hy120⟩) (by assumption) ?rest120
      case hi120 => (simp only [gA, gB, gC]; rfl)
      case hQ120 => exact fun _ _ _ h => h
      case hw120 => rfl
      case hy120 => (intro w hSw; (try dsimp only at hSw); go_simp; try with_reducible rfl)
      (try simp only [Act.put, sA, sB, sC])
      refine wpAnyH_take (i := 27) (oi := ?oi121) (v := ?v121) ?hi121 (by kernel_rfl) (by kernel_rfl) (by kernel_rfl) ?hQ121 (Or.inl ⟨?hw121, ?hy121⟩) (by assumption) ?rest121
      case hi121 => (simp only [gA, gB, gC]; rfl)
      case hQ121 => exact fun _ _ _ h => h
      case hw121 => rfl
      case hy121 => (intro w hSw; (try dsimp only at hSw); go_simp; try with_reducible rfl)
      (try simp only [Act.put, sA, sB, sC])
      refine wpAnyH_take (i := 28) (oi := ?oi122) (v := ?v122) ?hi122 (by kernel_rfl) (by kernel_rfl) (by kernel_rfl) ?hQ122 (Or.inl ⟨?hw122, ?hy122⟩) (by assumption) ?rest122
      case hi122 => (simp only [gA, gB, gC]; rfl)
      case hQ122 => exact fun _ _ _ h => h
      case hw122 => rfl
      case hy122 => (intro w hSw; (try dsimp only at hSw); go_simp; try with_reducible rfl)
      (try simp only [Act.put, sA, sB, sC])
      refine wpAnyH_ready (rs := [29]) (by kernel_rfl) (by simp) ?_
      refine AllReadyH.cons (o := ?o123) ?ho123 (fun K hK => ?st123) AllReadyH.nil
      case ho123 => (simp only [gA, gB, gC]; rfl)
      go_simp
      refine (AWK.out _).mono ?_; rintro e wG ⟨rfl, hbG⟩
      refine hK.out _ _ ?_ (fun hHeld => ?_)
      · (try dsimp only); (first | exact HKA.out _ _ (by assumption) | exact HK.out _ _ (by assumption) hbA | exact HK.out _ _ (by assumption) hbB | exact HK.out _ _ (by assumption) hbC | exact HK.out _ _ (by assumption) hbD | exact HK.out _ _ (by assumption) hbE | exact HK.out _ _ (by assumption) hbF | exact HK.out _ _ (by assumption) hbG)
      clear hK K
      (try simp only [Act.put, sA, sB, sC])
      refine wpAnyH_take (i := 30) (oi := ?oi124) (v := ?v124) ?hi124 (by kernel_rfl) (by kernel_rfl) (by kernel_rfl) ?hQ124 (Or.inl ⟨?hw124, ?hy124⟩) (by assumption) ?rest124
      case hi124 => (simp only [gA, gB, gC]; rfl)
      case hQ124 => exact fun _ _ _ h => h
      case hw124 => rfl
      case hy124 => (intro w hSw; (try dsimp only at hSw); go_simp; try with_reducible rfl)
      (try simp only [Act.put, sA, sB, sC])
      refine wpAnyH_take (i := 31) (oi := ?oi125) (v := ?v125) ?hi125 (by kernel_rfl) (by kernel_rfl) (by kernel_rfl) ?hQ125 (Or.inl ⟨?hw125, ?hy125⟩) (by assumption) ?rest125
      case hi125 => (simp only [gA, gB, gC]; rfl)
      case hQ125 => exact fun _ _ _ h => h
      case hw125 => rfl
      case hy125 => (intro w hSw; (try dsimp only at hSw); go_simp; try with_reducible rfl)
      (try simp only [Act.put, sA, sB, sC])
      refine wpAnyH_done (by kernel_rfl) ?_ _
      go_wp2
      go_ret
      exact ⟨rfl, HL5.out.trans ((And.left hHeld).mono HL5.out.size)⟩
     ·
      go_simp
      refine hK.out _ _ ?_ (fun hHeld => ?_)
      · (try dsimp only); (first | exact HKA.out _ _ (by assumption) | exact HK.out _ _ (by assumption) hbA | exact HK.out _ _ (by assumption) hbB | exact HK.out _ _ (by assumption) hbC | exact HK.out _ _ (by assumption) hbD | exact HK.out _ _ (by assumption) hbE | exact HK.out _ _ (by assumption) hbF | exact HK.out _ _ (by assumption) hbG)
      clear hK K
      (try simp only [Act.put, sA, sB, sC])
      refine wpAnyH_ready (rs := [2]) (by kernel_rfl) (by simp) ?_
      refine AllReadyH.cons (o := ?o126) ?ho126 (fun K hK => ?st126) AllReadyH.nil
      case ho126 => (simp only [gA, gB, gC]; rfl)
      go_simp
      refine (E1.out _ _ (And.left hHeld) (by first | exact nine_bs _ | exact nine_one _ _ | (refine Bs.alloc ?_ _; exact nine_bs _))).mono ?_; rintro e wA ⟨vA, rfl, hsA, hbA⟩
      refine hK.out _ _ ?_ (fun hHeld => ?_)
      · (try dsimp only); (first | exact HKA.out _ _ (by assumption) | exact HK.out _ _ (by assumption) hbA | exact HK.out _ _ (by assumption) hbB | exact HK.out _ _ (by assumption) hbC | exact HK.out _ _ (by assumption) hbD | exact HK.out _ _ (by assumption) hbE | exact HK.out _ _ (by assumption) hbF | exact HK.out _ _ (by assumption) hbG)
      clear hK K
      (try simp only [Act.put, sA, sB, sC])
      refine wpAnyH_ready (rs := [5]) (by kernel_rfl) (by simp) ?_
      refine AllReadyH.cons (o := ?o127) ?ho127 (fun K hK => ?st127) AllReadyH.nil
      case ho127 => (simp only [gA, gB, gC]; rfl)
      go_simp
      refine (E2.out _ _ (And.left hHeld) (by first | exact nine_bs _ | (refine Bs.below ?_ hbA (Nat.le_refl _); first | exact nine_bs _ | exact nine_one _ _ | (refine Bs.alloc ?_ _; exact nine_bs _)))).mono ?_; rintro e wB ⟨vB, rfl, hsB, hbB⟩
      refine hK.out _ _ ?_ (fun hHeld => ?_)
      · (try dsimp only); (first | exact HKA.out _ _ (by assumption) | exact HK.out _ _ (by assumption) hbA | exact HK.out _ _ (by assumption) hbB | exact HK.out _ _ (by assumption) hbC | exact HK.out _ _ (by assumption) hbD | exact HK.out _ _ (by assumption) hbE | exact HK.out _ _ (by assumption) hbF | exact HK.out _ _ (by assumption) hbG)
      clear hK K
      (try simp only [Act.put, sA, sB, sC])
      refine wpAnyH_ready (rs := [6]) (by kernel_rfl) (by simp) ?_
      refine AllReadyH.cons (o := ?o128) ?ho128 (fun K hK => ?st128) AllReadyH.nil
      case ho128 => (simp only [gA, gB, gC]; rfl)
      go_simp
      refine (E4.out _ _ _ out (by first | exact hsA.below hbB (Nat.le_refl _) | exact (hsA.alloc _).below hbB (Nat.le_refl _)) hsB).mono ?_; rintro e wC ⟨rfl, hbC⟩
      refine hK.out _ _ ?_ (fun hHeld => ?_)
      · (try dsimp only); (first | exact HKA.out _ _ (by assumption) | exact HK.out _ _ (by assumption) hbA | exact HK.out _ _ (by assumption) hbB | exact HK.out _ _ (by assumption) hbC | exact HK.out _ _ (by assumption) hbD | exact HK.out _ _ (by assumption) hbE | exact HK.out _ _ (by assumption) hbF | exact HK.out _ _ (by assumption) hbG)
      clear hK K
      (try simp only [Act.put, sA, sB, sC])
      refine wpAnyH_take (i := 7) (oi := ?oi129) (v := ?v129) ?hi129 (by kernel_rfl) (by kernel_rfl) (by kernel_rfl) ?hQ129 (Or.inl ⟨?hw129, ?hy129⟩) (by assumption) ?rest129
      case hi129 => (simp only [gA, gB, gC]; rfl)
      case hQ129 => exact fun _ _ _ h => h
      case hw129 => rfl
      case hy129 => (intro w hSw; (try dsimp only at hSw); go_simp; try with_reducible rfl)
      (try simp only [Act.put, sA, sB, sC])
      refine wpAnyH_take (i := 8) (oi := ?oi130) (v := ?v130) ?hi130 (by kernel_rfl) (by kernel_rfl) (by kernel_rfl) ?hQ130 (Or.inl ⟨?hw130, ?hy130⟩) (by assumption) ?rest130
      case hi130 => (simp only [gA, gB, gC]; rfl)
      case hQ130 => exact fun _ _ _ h => h
      case hw130 => rfl
      case hy130 => (intro w hSw; (try dsimp only at hSw); go_simp; try with_reducible rfl)
      (try simp only [Act.put, sA, sB, sC])
      refine wpAnyH_take (i := 9) (oi := ?oi131) (v := ?v131) ?hi131 (by kernel_rfl) (by kernel_rfl) (by kernel_rfl) ?hQ131 (Or.inl ⟨?hw131, ?hy131⟩) (by assumption) ?rest131
      case hi131 => (simp only [gA, gB, gC]; rfl)
      case hQ131 => exact fun _ _ _ h => h
      case hw131 => rfl
      case hy131 => (intro w hSw; (try dsimp only at hSw); go_simp; try with_reducible rfl)
      (try simp only [Act.put, sA, sB, sC])
      refine wpAnyH_ready (rs := [10]) (by kernel_rfl) (by simp) ?_
      refine AllReadyH.cons (o := ?o132) ?ho132 (fun K hK => ?st132) AllReadyH.nil
      case ho132 => (simp only [gA, gB, gC]; rfl)
      go_simp
      refine (E3.out _ (And.left hHeld)).mono ?_; rintro e wD ⟨rfl, hbD⟩
      refine hK.out _ _ ?_ (fun hHeld => ?_)
      · (try dsimp only); (first | exact HKA.out _ _ (by assumption) | exact HK.out _ _ (by assumption) hbA | exact HK.out _ _ (by assumption) hbB | exact HK.out _ _ (by assumption) hbC | exact HK.out _ _ (by assumption) hbD | exact HK.out _ _ (by assumption) hbE | exact HK.out _ _ (by assumption) hbF | exact HK.out _ _ (by assumption) hbG)
      clear hK K
      (try simp only [Act.put, sA, sB, sC])
      refine wpAnyH_take (i := 11) (oi := ?oi133) (v := ?v133) ?hi133 (by kernel_rfl) (by kernel_rfl) (by kernel_rfl) ?hQ133 (Or.inl ⟨?hw133, ?hy133⟩) (by assumption) ?rest133
      case hi133 => (simp only [gA, gB, gC]; rfl)
      case hQ133 => exact fun _ _ _ h => h
      case hw133 => rfl
      case hy133 => (intro w hSw; (try dsimp only at hSw); go_simp; try with_reducible rfl)
      (try simp only [Act.put, sA, sB, sC])
      refine wpAnyH_take (i := 12) (oi := ?oi134) (v := ?v134) ?hi134 (by kernel_rfl) (by kernel_rfl) (by kernel_rfl) ?hQ134 (Or.inl ⟨?hw134, ?hy134⟩) (by assumption) ?rest134
      case hi134 => (simp only [gA, gB, gC]; rfl)
      case hQ134 => exact fun _ _ _ h => h
      case hw134 => rfl
      case hy134 => (intro w hSw; (try dsimp only at hSw); go_simp; try with_reducible rfl)
      (try simp only [Act.put, sA, sB, sC])
      refine wpAnyH_take (i := 13) (oi := ?oi135) (v := ?v135) ?hi135 (by kernel_rfl) (by kernel_rfl) (by kernel_rfl) ?hQ135 (Or.inl ⟨?hw135, ?hy135⟩) (by assumption) ?rest135
      case hi135 => (simp only [gA, gB, gC]; rfl)
      case hQ135 => exact fun _ _ _ h => h
      case hw135 => rfl
      case hy135 => (intro w hSw; (try dsimp only at hSw); go_simp; try with_reducible rfl)
      (try simp only [Act.put, sA, sB, sC])
      refine wpAnyH_take (i := 14) (oi := ?oi136) (v := ?v136) ?hi136 (by kernel_rfl) (by kernel_rfl) (by kernel_rfl) ?hQ136 (Or.inl ⟨?hw136, ?hy136⟩) (by assumption) ?rest136
      case hi136 => (simp only [gA, gB, gC]; rfl)
      case hQ136 => exact fun _ _ _ h => h
      case hw136 => rfl
      case hy136 => (intro w hSw; (try dsimp only at hSw); go_simp; try with_reducible rfl)
      (try simp only [Act.put, sA, sB, sC])
      refine wpAnyH_take (i := 15) (oi := ?oi137) (v := ?v137) ?hi137 (by kernel_rfl) (by kernel_rfl) (by kernel_rfl) ?hQ137 (Or.inl ⟨?hw137, ?hy137⟩) (by assumption) ?rest137
      case hi137 => (simp only [gA, gB, gC]; rfl)
      case hQ137 => exact fun _ _ _ h => h
      case hw137 => rfl
      case hy137 => (intro w hSw; (try dsimp only at hSw); go_simp; try with_reducible rfl)
      (try simp only [Act.put, sA, sB, sC])
      refine wpAnyH_take (i := 16) (oi := ?oi138) (v := ?v138) ?hi138 (by kernel_rfl) (by kernel_rfl) (by kernel_rfl) ?hQ138 (Or.inl ⟨?hw138, ?hy138⟩) (by assumption) ?rest138
      case hi138 => (simp only [gA, gB, gC]; rfl)
      case hQ138 => exact fun _ _ _ h => h
      case hw138 => rfl
      case hy138 => (intro w hSw; (try dsimp only at hSw); go_simp; try with_reducible rfl)
      (try simp only [Act.put, sA, sB, sC])
      refine wpAnyH_take (i := 17) (oi := ?oi139) (v := ?v139) ?hi139 (by kernel_rfl) (by kernel_rfl) (by kernel_rfl) ?hQ139 (Or.inl ⟨?hw139, ?hy139⟩) (by assumption) ?rest139
      case hi139 => (simp only [gA, gB, gC]; rfl)
      case hQ139 => exact fun _ _ _ h => h
      case hw139 => rfl
      case hy139 => (intro w hSw; (try dsimp only at hSw); go_simp; try with_reducible rfl)
      (try simp only [Act.put, sA, sB, sC])
      refine wpAnyH_take (i := 18) (oi := ?oi140) (v := ?v140) ?hi140 (by kernel_rfl) (by kernel_rfl) (by kernel_rfl) ?hQ140 (Or.inl ⟨?hw140, ?hy140⟩) (by assumption) ?rest140
      case hi140 => (simp only [gA, gB, gC]; rfl)
      case hQ140 => exact fun _ _ _ h => h
      case hw140 => rfl
      case hy140 => (intro w hSw; (try dsimp only at hSw); go_simp; try with_reducible rfl)
      (try simp only [Act.put, sA, sB, sC])
      refine wpAnyH_take (i := 19) (oi := ?oi141) (v := ?v141) ?hi141 (by kernel_rfl) (by kernel_rfl) (by kernel_rfl) ?hQ141 (Or.inl ⟨?hw141, ?hy141⟩) (by assumption) ?rest141
      case hi141 => (simp only [gA, gB, gC]; rfl)
      case hQ141 => exact fun _ _ _ h => h
      case hw141 => rfl
      case hy141 => (intro w hSw; (try dsimp only at hSw); go_simp; try with_reducible rfl)
      (try simp only [Act.put, sA, sB, sC])
      refine wpAnyH_take (i := 20) (oi := ?oi142) (v := ?v142) ?hi142 (by kernel_rfl) (by kernel_rfl) (by kernel_rfl) ?hQ142 (Or.inl ⟨?hw142, ?hy142⟩) (by assumption) ?rest142
      case hi142 => (simp only [gA, gB, gC]; rfl)
      case hQ142 => exact fun _ _ _ h => h
      case hw142 => rfl
      case hy142 => (intro w hSw; (try dsimp only at hSw); go_simp; try with_reducible rfl)
      (try simp only [Act.put, sA, sB, sC])
      refine wpAnyH_take (i := 21) (oi := ?oi143) (v := ?v143) ?hi143 (by kernel_rfl) (by kernel_rfl) (by kernel_rfl) ?hQ143 (Or.inl ⟨?hw143, ?hy143⟩) (by assumption) ?rest143
      case hi143 => (simp only [gA, gB, gC]; rfl)
      case hQ143 => exact fun _ _ _ h => h
      case hw143 => rfl
      case hy143 => (intro w hSw; (try dsimp only at hSw); go_simp; try with_reducible rfl)
      (try simp only [Act.put, sA, sB, sC])
      refine wpAnyH_take (i := 23) (oi := ?oi144) (v := ?v144) ?hi144 (by kernel_rfl) (by kernel_rfl) (by kernel_rfl) ?hQ144 (Or.inl ⟨?hw144, ?hy144⟩) (by assumption) ?rest144
      case hi144 => (simp only [gA, gB, gC]; rfl)
      case hQ144 => exact fun _ _ _ h => h
      case hw144 => rfl
      case hy144 => (intro w hSw; (try dsimp only at hSw); go_simp; try with_reducible rfl)
      (try simp only [Act.put, sA, sB, sC])
      refine wpAnyH_ready (rs := [22]) (by kernel_rfl) (by simp) ?_
      refine AllReadyH.cons (o := ?o145) ?ho145 (fun K hK => ?st145) AllReadyH.nil
      case ho145 => (simp only [gA, gB, gC]; rfl)
      go_simp
      refine (Q1.out _ (And.left hHeld)).mono ?_; rintro e wE ⟨rfl, hbE⟩
      refine hK.out _ _ ?_ (fun hHeld => ?_)
      · (try dsimp only); (first | exact HKA.out _ _ (by assumption) | exact HK.out _ _ (by assumption) hbA | exact HK.out _ _ (by assumption) hbB | exact HK.out _ _ (by assumption) hbC | exact HK.out _ _ (by assumption) hbD | exact HK.out _ _ (by assumption) hbE | exact HK.out _ _ (by assumption) hbF | exact HK.out _ _ (by assumption) hbG)
      clear hK K
      (try simp only [Act.put, sA, sB, sC])
      refine wpAnyH_ready (rs := [24]) (by kernel_rfl) (by simp) ?_
      refine AllReadyH.cons (o := ?o146) ?ho146 (fun K hK => ?st146) AllReadyH.nil
      case ho146 => (simp only [gA, gB, gC]; rfl)
      go_simp
      refine (Q2.out _ (And.left hHeld)).mono ?_; rintro e wF ⟨rfl, hbF⟩
      refine hK.out _ _ ?_ (fun hHeld => ?_)
      · (try dsimp only); (first | exact HKA.out _ _ (by assumption) | exact HK.out _ _ (by assumption) hbA | exact HK.out _ _ (by assumption) hbB | exact HK.out _ _ (by assumption) hbC | exact HK.out _ _ (by assumption) hbD | exact HK.out _ _ (by assumption) hbE | exact HK.out _ _ (by assumption) hbF | exact HK.out _ _ (by assumption) hbG)
      clear hK K
      (try simp only [Act.put, sA, sB, sC])
      refine wpAnyH_take (i := 25) (oi := ?oi147) (v := ?v147) ?hi147 (by kernel_rfl) (by kernel_rfl) (by kernel_rfl) ?hQ147 (Or.inl ⟨?hw147, ?hy147⟩) (by assumption) ?rest147
      case hi147 => (simp only [gA, gB, gC]; rfl)
      case hQ147 => exact fun _ _ _ h => h
      case hw147 => rfl
      case hy147 => (intro w hSw; (try dsimp only at hSw); go_simp; try with_reducible rfl)
      (try simp only [Act.put, sA, sB, sC])
      refine wpAnyH_take (i := 26) (oi := ?oi148) (v := ?v148) ?hi148 (by kernel_rfl) (by kernel_rfl) (by kernel_rfl) ?hQ148 (Or.inl ⟨?hw148, ?hy148⟩) (by assumption) ?rest148
      case hi148 => (simp only [gA, gB, gC]; rfl)
      case hQ148 => exact fun _ _ _ h => h
      case hw148 => rfl
      case hy148 => (intro w hSw; (try dsimp only at hSw); go_simp; try with_reducible rfl)
      (try simp only [Act.put, sA, sB, sC])
      refine wpAnyH_take (i := 27) (oi := ?oi149) (v := ?v149) ?hi149 (by kernel_rfl) (by kernel_rfl) (by kernel_rfl) ?hQ149 (Or.inl ⟨?hw149, ?hy149⟩) (by assumption) ?rest149
      case hi149 => (simp only [gA, gB, gC]; rfl)
      case hQ149 => exact fun _ _ _ h => h
      case hw149 => rfl
      case hy149 => (intro w hSw; (try dsimp only at hSw); go_simp; try with_reducible rfl)
      (try simp only [Act.put, sA, sB, sC])
      refine wpAnyH_take (i := 28) (oi := ?oi150) (v := ?v150) ?hi150 (by kernel_rfl) (by kernel_rfl) (by kernel_rfl) ?hQ150 (Or.inl ⟨?hw150, ?hy150⟩) (by assumption) ?rest150
      case hi150 => (simp only [gA, gB, gC]; rfl)
      case hQ150 => exact fun _ _ _ h => h
      case hw150 => rfl
      case hy150 => (intro w hSw; (try dsimp only at hSw); go_simp; try with_reducible rfl)
      (try simp only [Act.put, sA, sB, sC])
      refine wpAnyH_ready (rs := [29]) (by kernel_rfl) (by simp) ?_
      refine AllReadyH.cons (o := ?o151) ?ho151 (fun K hK => ?st151) AllReadyH.nil
      case ho151 => (simp only [gA, gB, gC]; rfl)
      go_simp
      refine (AWK.out _).mono ?_; rintro e wG ⟨rfl, hbG⟩
      refine hK.out _ _ ?_ (fun hHeld => ?_)
      · (try dsimp only); (first | exact HKA.out _ _ (by assumption) | exact HK.out _ _ (by assumption) hbA | exact HK.out _ _ (by assumption) hbB | exact HK.out _ _ (by assumption) hbC | exact HK.out _ _ (by assumption) hbD | exact HK.out _ _ (by assumption) hbE | exact HK.out _ _ (by assumption) hbF | exact HK.out _ _ (by assumption) hbG)
      clear hK K
      (try simp only [Act.put, sA, sB, sC])
      refine wpAnyH_take (i := 30) (oi := ?oi152) (v := ?v152) ?hi152 (by kernel_rfl) (by kernel_rfl) (by kernel_rfl) ?hQ152 (Or.inl ⟨?hw152, ?hy152⟩) (by assumption) ?rest152
      case hi152 => (simp only [gA, gB, gC]; rfl)
      case hQ152 => exact fun _ _ _ h => h
      case hw152 => rfl
      case hy152 => (intro w hSw; (try dsimp only at hSw); go_simp; try with_reducible rfl)
      (try simp only [Act.put, sA, sB, sC])
      refine wpAnyH_take (i := 31) (oi := ?oi153) (v := ?v153) ?hi153 (by kernel_rfl) (by kernel_rfl) (by kernel_rfl) ?hQ153 (Or.inl ⟨?hw153, ?hy153⟩) (by assumption) ?rest153
      case hi153 => (simp only [gA, gB, gC]; rfl)
      case hQ153 => exact fun _ _ _ h => h
      case hw153 => rfl
      case hy153 => (intro w hSw; (try dsimp only at hSw); go_simp; try with_reducible rfl)
      (try simp only [Act.put, sA, sB, sC])
      refine wpAnyH_done (by kernel_rfl) ?_ _
      go_wp2
      go_ret
      exact ⟨rfl, HL5.out.trans ((And.left hHeld).mono HL5.out.size)⟩
    ·
     go_simp
     refine hK.out _ _ ?_ (fun hHeld => ?_)
     · (try dsimp only); (first | exact HKA.out _ _ (by assumption) | exact HK.out _ _ (by assumption) hbA | exact HK.out _ _ (by assumption) hbB | exact HK.out _ _ (by assumption) hbC | exact HK.out _ _ (by assumption) hbD | exact HK.out _ _ (by assumption) hbE | exact HK.out _ _ (by assumption) hbF | exact HK.out _ _ (by assumption) hbG)
     clear hK K
     (try simp only [Act.put, sA, sB, sC])
     refine wpAnyH_ready (rs := [0]) (by kernel_rfl) (by simp) ?_
     refine AllReadyH.cons (o := ?o154) ?ho154 (fun K hK => ?st154) AllReadyH.nil
     case ho154 => (simp only [gA, gB, gC]; rfl)
     go_simp
     refine hK.out _ _ ?_ (fun hHeld => ?_)
     · (try dsimp only); (first | exact HKA.out _ _ (by assumption) | exact HK.out _ _ (by assumption) hbA | exact HK.out _ _ (by assumption) hbB | exact HK.out _ _ (by assumption) hbC | exact HK.out _ _ (by assumption) hbD | exact HK.out _ _ (by assumption) hbE | exact HK.out _ _ (by assumption) hbF | exact HK.out _ _ (by assumption) hbG)
     clear hK K
     (try simp only [Act.put, sA, sB, sC])
     refine wpAnyH_ready (rs := [2]) (by kernel_rfl) (by simp) ?_
     refine AllReadyH.cons (o := ?o155) ?ho155 (fun K hK => ?st155) AllReadyH.nil
     case ho155 => (simp only [gA, gB, gC]; rfl)
     go_simp
     refine (E1.out _ _ (And.left hHeld) (by first | exact nine_bs _ | exact nine_one _ _ | (refine Bs.alloc ?_ _; exact nine_bs _))).mono ?_; rintro e wA ⟨vA, rfl, hsA, hbA⟩
     refine hK.out _ _ ?_ (fun hHeld => ?_)
     · (try dsimp only); (first | exact HKA.out _ _ (by assumption) | exact HK.out _ _ (by assumption) hbA | exact HK.out _ _ (by assumption) hbB | exact HK.out _ _ (by assumption) hbC | exact HK.out _ _ (by assumption) hbD | exact HK.out _ _ (by assumption) hbE | exact HK.out _ _ (by assumption) hbF | exact HK.out _ _ (by assumption) hbG)
     clear hK K
     (try simp only [Act.put, sA, sB, sC])
     refine wpAnyH_ready (rs := [5]) (by kernel_rfl) (by simp) ?_
     refine AllReadyH.cons (o := ?o156) ?ho156 (fun K hK => ?st156) AllReadyH.nil
     case ho156 => (simp only [gA, gB, gC]; rfl)
     go_simp
     refine (E2.out _ _ (And.left hHeld) (by first | exact nine_bs _ | (refine Bs.below ?_ hbA (Nat.le_refl _); first | exact nine_bs _ | exact nine_one _ _ | (refine Bs.alloc ?_ _; exact nine_bs _)))).mono ?_; rintro e wB ⟨vB, rfl, hsB, hbB⟩
     refine hK.out _ _ ?_ (fun hHeld => ?_)
     · (try dsimp only); (first | exact HKA.out _ _ (by assumption) | exact HK.out _ _ (by assumption) hbA | exact HK.out _ _ (by assumption) hbB | exact HK.out _ _ (by assumption) hbC | exact HK.out _ _ (by assumption) hbD | exact HK.out _ _ (by assumption) hbE | exact HK.out _ _ (by assumption) hbF | exact HK.out _ _ (by assumption) hbG)
     clear hK K
     (try simp only [Act.put, sA, sB, sC])
     refine wpAnyH_ready (rs := [6]) (by kernel_rfl) (by simp) ?_
     refine AllReadyH.cons (o := ?o157) ?ho157 (fun K hK => ?st157) AllReadyH.nil
     case ho157 => (simp only [gA, gB, gC]; rfl)
     go_simp
     refine (E4.out _ _ _ out (by first | exact hsA.below hbB (Nat.le_refl _) | exact (hsA.alloc _).below hbB (Nat.le_refl _)) hsB).mono ?_; rintro e wC ⟨rfl, hbC⟩
     refine hK.out _ _ ?_ (fun hHeld => ?_)
     · (try dsimp only); (first | exact HKA.out _ _ (by assumption) | exact HK.out _ _ (by assumption) hbA | exact HK.out _ _ (by assumption) hbB | exact HK.out _ _ (by assumption) hbC | exact HK.out _ _ (by assumption) hbD | exact HK.out _ _ (by assumption) hbE | exact HK.out _ _ (by assumption) hbF | exact HK.out _ _ (by assumption) hbG)
     clear hK K
     (try simp only [Act.put, sA, sB, sC])
     refine wpAnyH_take (i := 7) (oi := ?oi158) (v := ?v158) ?hi158 (by kernel_rfl) (by kernel_rfl) (by kernel_rfl) ?hQ158 (Or.inl ⟨?hw158, ?hy158⟩) (by assumption) ?rest158
     case hi158 => (simp only [gA, gB, gC]; rfl)
     case hQ158 => exact fun _ _ _ h => h
     case hw158 => rfl
     case hy158 => (intro w hSw; (try dsimp only at hSw); go_simp; try with_reducible rfl)
     (try simp only [Act.put, sA, sB, sC])
     refine wpAnyH_take (i := 8) (oi := ?oi159) (v := ?v159) ?hi159 (by kernel_rfl) (by kernel_rfl) (by kernel_rfl) ?hQ159 (Or.inl ⟨?hw159, ?hy159⟩) (by assumption) ?rest159
     case hi159 => (simp only [gA, gB, gC]; rfl)
     case hQ159 => exact fun _ _ _ h => h
     case hw159 => rfl
     case hy159 => (intro w hSw; (try dsimp only at hSw); go_simp; try with_reducible rfl)
     (try simp only [Act.put, sA, sB, sC])
     refine wpAnyH_take (i := 9) (oi := ?oi160) (v := ?v160) ?hi160 (by kernel_rfl) (by kernel_rfl) (by kernel_rfl) ?hQ160 (Or.inl ⟨?hw160, ?hy160⟩) (by assumption) ?rest160
     case hi160 => (simp only [gA, gB, gC]; rfl)
     case hQ160 => exact fun _ _ _ h => h
     case hw160 => rfl
     case hy160 => (intro w hSw; (try dsimp only at hSw); go_simp; try with_reducible rfl)
     (try simp only [Act.put, sA, sB, sC])
     refine wpAnyH_ready (rs := [10]) (by kernel_rfl) (by simp) ?_
     refine AllReadyH.cons (o := ?o161) ?ho161 (fun K hK => ?st161) AllReadyH.nil
     case ho161 => (simp only [gA, gB, gC]; rfl)
     go_simp
     refine (E3.out _ (And.left hHeld)).mono ?_; rintro e wD ⟨rfl, hbD⟩
     refine hK.out _ _ ?_ (fun hHeld => ?_)
     · (try dsimp only); (first | exact HKA.out _ _ (by assumption) | exact HK.out _ _ (by assumption) hbA | exact HK.out _ _ (by assumption) hbB | exact HK.out _ _ (by assumption) hbC | exact HK.out _ _ (by assumption) hbD | exact HK.out _ _ (by assumption) hbE | exact HK.out _ _ (by assumption) hbF | exact HK.out _ _ (by assumption) hbG)
     clear hK K
     (try simp only [Act.put, sA, sB, sC])
     refine wpAnyH_take (i := 11) (oi := ?oi162) (v := ?v162) ?hi162 (by kernel_rfl) (by kernel_rfl) (by kernel_rfl) ?hQ162 (Or.inl ⟨?hw162, ?hy162⟩) (by assumption) ?rest162
     case hi162 => (simp only [gA, gB, gC]; rfl)
     case hQ162 => exact fun _ _ _ h => h
     case hw162 => rfl
     case hy162 => (intro w hSw; (try dsimp only at hSw); go_simp; try with_reducible rfl)
     (try simp only [Act.put, sA, sB, sC])
     refine wpAnyH_take (i := 12) (oi := ?oi163) (v := ?v163) ?hi163 (by kernel_rfl) (by kernel_rfl) (by kernel_rfl) ?hQ163 (Or.inl ⟨?hw163, ?hy163⟩) (by assumption) ?rest163
     case hi163 => (simp only [gA, gB, gC]; rfl)
     case hQ163 => exact fun _ _ _ h => h
     case hw163 => rfl
     case hy163 => (intro w hSw; (try dsimp only at hSw); go_simp; try with_reducible rfl)
     (try simp only [Act.put, sA, sB, sC])
     refine wpAnyH_take (i := 13) (oi := ?oi164) (v := ?v164) ?hi164 (by kernel_rfl) (by kernel_rfl) (by kernel_rfl) ?hQ164 (Or.inl ⟨?hw164, ?hy164⟩) (by assumption) ?rest164
     case hi164 => (simp only [gA, gB, gC]; rfl)
     case hQ164 => exact fun _ _ _ h => h
     case hw164 => rfl
     case hy164 => (intro w hSw; (try dsimp only at hSw); go_simp; try with_reducible rfl)
     (try simp only [Act.put, sA, sB, sC])
     refine wpAnyH_take (i := 14) (oi := ?oi165) (v := ?v165) ?hi165 (by kernel_rfl) (by kernel_rfl) (by kernel_rfl) ?hQ165 (Or.inl ⟨?hw165, ?hy165⟩) (by assumption) ?rest165
     case hi165 => (simp only [gA, gB, gC]; rfl)
     case hQ165 => exact fun _ _ _ h => h
     case hw165 => rfl
     case hy165 => (intro w hSw; (try dsimp only at hSw); go_simp; try with_reducible rfl)
     (try simp only [Act.put, sA, sB, sC])
     refine wpAnyH_take (i := 15) (oi := ?oi166) (v := ?v166) ?hi166 (by kernel_rfl) (by kernel_rfl) (by kernel_rfl) ?hQ166 (Or.inl ⟨?hw166, ?hy166⟩) (by assumption) ?rest166
     case hi166 => (simp only [gA, gB, gC]; rfl)
     case hQ166 => exact fun _ _ _ h => h
     case hw166 => rfl
     case hy166 => (intro w hSw; (try dsimp only at hSw); go_simp; try with_reducible rfl)
     (try simp only [Act.put, sA, sB, sC])
     refine wpAnyH_take (i := 16) (oi := ?oi167) (v := ?v167) ?hi167 (by kernel_rfl) (by kernel_rfl) (by kernel_rfl) ?hQ167 (Or.inl ⟨?hw167, ?hy167⟩) (by assumption) ?rest167
     case hi167 => (simp only [gA, gB, gC]; rfl)
     case hQ167 => exact fun _ _ _ h => h
     case hw167 => rfl
     case hy167 => (intro w hSw; (try dsimp only at hSw); go_simp; try with_reducible rfl)
     (try simp only [Act.put, sA, sB, sC])
     refine wpAnyH_take (i := 17) (oi := ?oi168) (v := ?v168) ?hi168 (by kernel_rfl) (by kernel_rfl) (by kernel_rfl) ?hQ168 (Or.inl ⟨?hw168, ?hy168⟩) (by assumption) ?rest168
     case hi168 => (simp only [gA, gB, gC]; rfl)
     case hQ168 => exact fun _ _ _ h => h
     case hw168 => rfl
     case hy168 => (intro w hSw; (try dsimp only at hSw); go_simp; try with_reducible rfl)
     (try simp only [Act.put, sA, sB, sC])
     refine wpAnyH_take (i := 18) (oi := ?oi169) (v := ?v169) ?hi169 (by kernel_rfl) (by kernel_rfl) (by kernel_rfl) ?hQ169 (Or.inl ⟨?hw169, ?hy169⟩) (by assumption) ?rest169
     case hi169 => (simp only [gA, gB, gC]; rfl)
     case hQ169 => exact fun _ _ _ h => h
     case hw169 => rfl
     case hy169 => (intro w hSw; (try dsimp only at hSw); go_simp; try with_reducible rfl)
     (try simp only [Act.put, sA, sB, sC])
     refine wpAnyH_take (i := 19) (oi := ?oi170) (v := ?v170) ?hi170 (by kernel_rfl) (by kernel_rfl) (by kernel_rfl) ?hQ170 (Or.inl ⟨?hw170, ?hy170⟩) (by assumption) ?rest170
     case hi170 => (simp only [gA, gB, gC]; rfl)
     case hQ170 => exact fun _ _ _ h => h
     case hw170 => rfl
     case hy170 => (intro w hSw; (try dsimp only at hSw); go_simp; try with_reducible rfl)
     (try simp only [Act.put, sA, sB, sC])
     refine wpAnyH_take (i := 20) (oi := ?oi171) (v := ?v171) ?hi171 (by kernel_rfl) (by kernel_rfl) (by kernel_rfl) ?hQ171 (Or.inl ⟨?hw171, ?hy171⟩) (by assumption) ?rest171
     case hi171 => (simp only [gA, gB, gC]; rfl)
     case hQ171 => exact fun _ _ _ h => h
     case hw171 => rfl
     case hy171 => (intro w hSw; (try dsimp only at hSw); go_simp; try with_reducible rfl)
     (try simp only [Act.put, sA, sB, sC])
     refine wpAnyH_take (i := 21) (oi := ?oi172) (v := ?v172) ?hi172 (by kernel_rfl) (by kernel_rfl) (by kernel_rfl) ?hQ172 (Or.inl ⟨?hw172, ?hy172⟩) (by assumption) ?rest172
     case hi172 => (simp only [gA, gB, gC]; rfl)
     case hQ172 => exact fun _ _ _ h => h
     case hw172 => rfl
     case hy172 => (intro w hSw; (try dsimp only at hSw); go_simp; try with_reducible rfl)
     (try simp only [Act.put, sA, sB, sC])
     refine wpAnyH_take (i := 23) (oi := ?oi173) (v := ?v173) ?hi173 (by kernel_rfl) (by kernel_rfl) (by kernel_rfl) ?hQ173 (Or.inl ⟨?hw173, ?hy173⟩) (by assumption) ?rest173
     case hi173 => (simp only [gA, gB, gC]; rfl)
     case hQ173 => exact fun _ _ _ h => h
     case hw173 => rfl
     case hy173 => (intro w hSw; (try dsimp only at hSw); go_simp; try with_reducible rfl)
     (try simp only [Act.put, sA, sB, sC])
     refine wpAnyH_ready (rs := [22]) (by kernel_rfl) (by simp) ?_
     refine AllReadyH.cons (o := ?o174) ?ho174 (fun K hK => ?st174) AllReadyH.nil
     case ho174 => (simp only [gA, gB, gC]; rfl)
     go_simp
     refine (Q1.out _ (And.left hHeld)).mono ?_; rintro e wE ⟨rfl, hbE⟩
     refine hK.out _ _ ?_ (fun hHeld => ?_)
     · (try dsimp only); (first | exact HKA.out _ _ (by assumption) | exact HK.out _ _ (by assumption) hbA | exact HK.out _ _ (by assumption) hbB | exact HK.out _ _ (by assumption) hbC | exact HK.out _ _ (by assumption) hbD | exact HK.out _ _ (by assumption) hbE | exact HK.out _ _ (by assumption) hbF | exact HK.out _ _ (by assumption) hbG)
     clear hK K
     (try simp only [Act.put, sA, sB, sC])
     refine wpAnyH_ready (rs := [24]) (by kernel_rfl) (by simp) ?_
     refine AllReadyH.cons (o := ?o175) ?ho175 (fun K hK => ?st175) AllReadyH.nil
     case ho175 => (simp only [gA, gB, gC]; rfl)
     go_simp
     refine (Q2.out _ (And.left hHeld)).mono ?_; rintro e wF ⟨rfl, hbF⟩
     refine hK.out _ _ ?_ (fun hHeld => ?_)
     · (try dsimp only); (first | exact HKA.out _ _ (by assumption) | exact HK.out _ _ (by assumption) hbA | exact HK.out _ _ (by assumption) hbB | exact HK.out _ _ (by assumption) hbC | exact HK.out _ _ (by assumption) hbD | exact HK.out _ _ (by assumption) hbE | exact HK.out _ _ (by assumption) hbF | exact HK.out _ _ (by assumption) hbG)
     clear hK K
     (try simp only [Act.put, sA, sB, sC])
     refine wpAnyH_take (i := 25) (oi := ?oi176) (v := ?v176) ?hi176 (by kernel_rfl) (by kernel_rfl) (by kernel_rfl) ?hQ176 (Or.inl ⟨?hw176, ?hy176⟩) (by assumption) ?rest176
     case hi176 => (simp only [gA, gB, gC]; rfl)
     case hQ176 => exact fun _ _ _ h => h
     case hw176 => rfl
     case hy176 => (intro w hSw; (try dsimp only at hSw); go_simp; try with_reducible rfl)
     (try simp only [Act.put, sA, sB, sC])
     refine wpAnyH_take (i := 26) (oi := ?oi177) (v := ?v177) ?hi177 (by kernel_rfl) (by kernel_rfl) (by kernel_rfl) ?hQ177 (Or.inl ⟨?hw177, ?hy177⟩) (by assumption) ?rest177
     case hi177 => (simp only [gA, gB, gC]; rfl)
     case hQ177 => exact fun _ _ _ h => h
     case hw177 => rfl
     case hy177 => (intro w hSw; (try dsimp only at hSw); go_simp; try with_reducible rfl)
     (try simp only [Act.put, sA, sB, sC])
     refine wpAnyH_take (i := 27) (oi := ?oi178) (v := ?v178) ?hi178 (by kernel_rfl) (by kernel_rfl) (by kernel_rfl) ?hQ178 (Or.inl ⟨?hw178, ?hy178⟩) (by assumption) ?rest178
     case hi178 => (simp only [gA, gB, gC]; rfl)
     case hQ178 => exact fun _ _ _ h => h
     case hw178 => rfl
     case hy178 => (intro w hSw; (try dsimp only at hSw); go_simp; try with_reducible rfl)
     (try simp only [Act.put, sA, sB, sC])
     refine wpAnyH_take (i := 28) (oi := ?oi179) (v := ?v179) ?hi179 (by kernel_rfl) (by kernel_rfl) (by kernel_rfl) ?hQ179 (Or.inl ⟨?hw179, ?hy179⟩) (by assumption) ?rest179
     case hi179 => (simp only [gA, gB, gC]; rfl)
     case hQ179 => exact fun _ _ _ h => h
     case hw179 => rfl
     case hy179 => (intro w hSw; (try dsimp only at hSw); go_simp; try with_reducible rfl)
     (try simp only [Act.put, sA, sB, sC])
     refine wpAnyH_ready (rs := [29]) (by kernel_rfl) (by simp) ?_
     refine AllReadyH.cons (o := ?o180) ?ho180 (fun K hK => ?st180) AllReadyH.nil
     case ho180 => (simp only [gA, gB, gC]; rfl)
     go_simp
     refine (AWK.out _).mono ?_; rintro e wG ⟨rfl, hbG⟩
     refine hK.out _ _ ?_ (fun hHeld => ?_)
     · (try dsimp only); (first | exact HKA.out _ _ (by assumption) | exact HK.out _ _ (by assumption) hbA | exact HK.out _ _ (by assumption) hbB | exact HK.out _ _ (by assumption) hbC | exact HK.out _ _ (by assumption) hbD | exact HK.out _ _ (by assumption) hbE | exact HK.out _ _ (by assumption) hbF | exact HK.out _ _ (by assumption) hbG)
     clear hK K
     (try simp only [Act.put, sA, sB, sC])
     refine wpAnyH_take (i := 30) (oi := ?oi181) (v := ?v181) ?hi181 (by kernel_rfl) (by kernel_rfl) (by kernel_rfl) ?hQ181 (Or.inl ⟨?hw181, ?hy181⟩) (by assumption) ?rest181
     case hi181 => (simp only [gA, gB, gC]; rfl)
     case hQ181 => exact fun _ _ _ h => h
     case hw181 => rfl
     case hy181 => (intro w hSw; (try dsimp only at hSw); go_simp; try with_reducible rfl)
     (try simp only [Act.put, sA, sB, sC])
     refine wpAnyH_take (i := 31) (oi := ?oi182) (v := ?v182) ?hi182 (by kernel_rfl) (by kernel_rfl) (by kernel_rfl) ?hQ182 (Or.inl ⟨?hw182, ?hy182⟩) (by assumption) ?rest182
     case hi182 => (simp only [gA, gB, gC]; rfl)
     case hQ182 => exact fun _ _ _ h => h
     case hw182 => rfl
     case hy182 => (intro w hSw; (try dsimp only at hSw); go_simp; try with_reducible rfl)
     (try simp only [Act.put, sA, sB, sC])
     refine wpAnyH_done (by kernel_rfl) ?_ _
     go_wp2
     go_ret
     exact ⟨rfl, HL5.out.trans ((And.left hHeld).mono HL5.out.size)⟩
  · have her2 : (er != 0) = true := by simpa using h0
    clear h0 Q1q Q2q
    refine wp_region_held_drew (S := (fun W => Below wi.heap.size wi W ∧ (W.cell? ⟨w.heap.size, 0, none⟩ = some (.int .i64 eop) ∧ W.cell? ⟨w.heap.size, 1, none⟩ = some (.slice A n c) ∧ W.cell? ⟨w.heap.size, 2, none⟩ = some (.string enm) ∧ W.cell? ⟨w.heap.size, 3, none⟩ = some (.int .i64 ev.k) ∧ W.cell? ⟨w.heap.size, 4, none⟩ = some (.int .i64 ev.i) ∧ W.cell? ⟨w.heap.size, 5, none⟩ = some (.bool ev.b) ∧ W.cell? ⟨w.heap.size, 6, none⟩ = some (.string ev.s) ∧ W.cell? ⟨w.heap.size, 7, none⟩ = some (.float .f64 ev.n)) ∧ (W.cell? ⟨bx, 0, none⟩ = some (.int .i64 x.op) ∧ W.cell? ⟨bx, 1, none⟩ = some (.slice A1 x.kids.length c1) ∧ W.cell? ⟨bx, 2, none⟩ = some (.string x.name) ∧ W.cell? ⟨bx, 3, none⟩ = some (.int .i64 x.val.k) ∧ W.cell? ⟨bx, 4, none⟩ = some (.int .i64 x.val.i) ∧ W.cell? ⟨bx, 5, none⟩ = some (.bool x.val.b) ∧ W.cell? ⟨bx, 6, none⟩ = some (.string x.val.s) ∧ W.cell? ⟨bx, 7, none⟩ = some (.float .f64 x.val.n)) ∧ (W.cell? ⟨bz, 0, none⟩ = some (.int .i64 x.op) ∧ W.cell? ⟨bz, 1, none⟩ = some (.slice A2 x.kids.length c2) ∧ W.cell? ⟨bz, 2, none⟩ = some (.string x.name) ∧ W.cell? ⟨bz, 3, none⟩ = some (.int .i64 x.val.k) ∧ W.cell? ⟨bz, 4, none⟩ = some (.int .i64 x.val.i) ∧ W.cell? ⟨bz, 5, none⟩ = some (.bool x.val.b) ∧ W.cell? ⟨bz, 6, none⟩ = some (.string x.val.s) ∧ W.cell? ⟨bz, 7, none⟩ = some (.float .f64 x.val.n)))) (by kernel_rfl) (hS0) (fun hHeld => ?_)
    refine wpAnyH_take (i := 1) (oi := ?oi1) (v := ?v1) ?hi1 (by kernel_rfl) (by kernel_rfl) (by kernel_rfl) ?hQ1 (Or.inl ⟨?hw1, ?hy1⟩) (by assumption) ?rest1
    case hi1 => (simp only [gA, gB, gC]; rfl)
    case hQ1 => exact fun _ _ _ h => h
    case hw1 => rfl
    case hy1 => (intro w hSw; (try dsimp only at hSw); go_simp; try with_reducible rfl)
    (try simp only [Act.put, sA, sB, sC])
    refine wpAnyH_take (i := 4) (oi := ?oi2) (v := ?v2) ?hi2 (by kernel_rfl) (by kernel_rfl) (by kernel_rfl) ?hQ2 (Or.inl ⟨?hw2, ?hy2⟩) (by assumption) ?rest2
    case hi2 => (simp only [gA, gB, gC]; rfl)
    case hQ2 => exact fun _ _ _ h => h
    case hw2 => rfl
    case hy2 => (intro w hSw; (try dsimp only at hSw); go_simp; try with_reducible rfl)
    (try simp only [Act.put, sA, sB, sC])
    refine wpAnyH_ready (rs := [0, 3]) (by kernel_rfl) (by simp) ?_
    refine AllReadyH.cons (o := ?o3) ?ho3 (fun K hK => ?st3) (AllReadyH.cons (o := ?o4) ?ho4 (fun K hK => ?st4) AllReadyH.nil)
    case ho3 => (simp only [gA, gB, gC]; rfl)
    case ho4 => (simp only [gA, gB, gC]; rfl)
    ·
     go_simp
     refine hK.out _ _ ?_ (fun hHeld => ?_)
     · (try dsimp only); (first | exact HKA.out _ _ (by assumption) | exact HK.out _ _ (by assumption) hbA | exact HK.out _ _ (by assumption) hbB | exact HK.out _ _ (by assumption) hbC | exact HK.out _ _ (by assumption) hbD | exact HK.out _ _ (by assumption) hbE | exact HK.out _ _ (by assumption) hbF | exact HK.out _ _ (by assumption) hbG)
     clear hK K
     (try simp only [Act.put, sA, sB, sC])
     refine wpAnyH_ready (rs := [2, 3]) (by kernel_rfl) (by simp) ?_
     refine AllReadyH.cons (o := ?o5) ?ho5 (fun K hK => ?st5) (AllReadyH.cons (o := ?o6) ?ho6 (fun K hK => ?st6) AllReadyH.nil)
     case ho5 => (simp only [gA, gB, gC]; rfl)
     case ho6 => (simp only [gA, gB, gC]; rfl)
     ·
      go_simp
      refine (E1.out _ _ (And.left hHeld) (by first | exact nine_bs _ | exact nine_one _ _ | (refine Bs.alloc ?_ _; exact nine_bs _))).mono ?_; rintro e wA ⟨vA, rfl, hsA, hbA⟩
      refine hK.out _ _ ?_ (fun hHeld => ?_)
      · (try dsimp only); (first | exact HKA.out _ _ (by assumption) | exact HK.out _ _ (by assumption) hbA | exact HK.out _ _ (by assumption) hbB | exact HK.out _ _ (by assumption) hbC | exact HK.out _ _ (by assumption) hbD | exact HK.out _ _ (by assumption) hbE | exact HK.out _ _ (by assumption) hbF | exact HK.out _ _ (by assumption) hbG)
      clear hK K
      (try simp only [Act.put, sA, sB, sC])
      refine wpAnyH_ready (rs := [3]) (by kernel_rfl) (by simp) ?_
      refine AllReadyH.cons (o := ?o7) ?ho7 (fun K hK => ?st7) AllReadyH.nil
      case ho7 => (simp only [gA, gB, gC]; rfl)
      go_simp
      refine hK.out _ _ ?_ (fun hHeld => ?_)
      · (try dsimp only); (first | exact HKA.out _ _ (by assumption) | exact HK.out _ _ (by assumption) hbA | exact HK.out _ _ (by assumption) hbB | exact HK.out _ _ (by assumption) hbC | exact HK.out _ _ (by assumption) hbD | exact HK.out _ _ (by assumption) hbE | exact HK.out _ _ (by assumption) hbF | exact HK.out _ _ (by assumption) hbG)
      clear hK K
      (try simp only [Act.put, sA, sB, sC])
      refine wpAnyH_ready (rs := [5]) (by kernel_rfl) (by simp) ?_
      refine AllReadyH.cons (o := ?o8) ?ho8 (fun K hK => ?st8) AllReadyH.nil
      case ho8 => (simp only [gA, gB, gC]; rfl)
      go_simp
      refine (E2.out _ _ (And.left hHeld) (by first | exact nine_bs _ | (refine Bs.below ?_ hbA (Nat.le_refl _); first | exact nine_bs _ | exact nine_one _ _ | (refine Bs.alloc ?_ _; exact nine_bs _)))).mono ?_; rintro e wB ⟨vB, rfl, hsB, hbB⟩
      refine hK.out _ _ ?_ (fun hHeld => ?_)
      · (try dsimp only); (first | exact HKA.out _ _ (by assumption) | exact HK.out _ _ (by assumption) hbA | exact HK.out _ _ (by assumption) hbB | exact HK.out _ _ (by assumption) hbC | exact HK.out _ _ (by assumption) hbD | exact HK.out _ _ (by assumption) hbE | exact HK.out _ _ (by assumption) hbF | exact HK.out _ _ (by assumption) hbG)
      clear hK K
      (try simp only [Act.put, sA, sB, sC])
      refine wpAnyH_ready (rs := [6]) (by kernel_rfl) (by simp) ?_
      refine AllReadyH.cons (o := ?o9) ?ho9 (fun K hK => ?st9) AllReadyH.nil
      case ho9 => (simp only [gA, gB, gC]; rfl)
      go_simp
      refine (E4.out _ _ _ out (by first | exact hsA.below hbB (Nat.le_refl _) | exact (hsA.alloc _).below hbB (Nat.le_refl _)) hsB).mono ?_; rintro e wC ⟨rfl, hbC⟩
      refine hK.out _ _ ?_ (fun hHeld => ?_)
      · (try dsimp only); (first | exact HKA.out _ _ (by assumption) | exact HK.out _ _ (by assumption) hbA | exact HK.out _ _ (by assumption) hbB | exact HK.out _ _ (by assumption) hbC | exact HK.out _ _ (by assumption) hbD | exact HK.out _ _ (by assumption) hbE | exact HK.out _ _ (by assumption) hbF | exact HK.out _ _ (by assumption) hbG)
      clear hK K
      (try simp only [Act.put, sA, sB, sC])
      refine wpAnyH_take (i := 7) (oi := ?oi10) (v := ?v10) ?hi10 (by kernel_rfl) (by kernel_rfl) (by kernel_rfl) ?hQ10 (Or.inl ⟨?hw10, ?hy10⟩) (by assumption) ?rest10
      case hi10 => (simp only [gA, gB, gC]; rfl)
      case hQ10 => exact fun _ _ _ h => h
      case hw10 => rfl
      case hy10 => (intro w hSw; (try dsimp only at hSw); go_simp; try with_reducible rfl)
      (try simp only [Act.put, sA, sB, sC])
      refine wpAnyH_take (i := 8) (oi := ?oi11) (v := ?v11) ?hi11 (by kernel_rfl) (by kernel_rfl) (by kernel_rfl) ?hQ11 (Or.inl ⟨?hw11, ?hy11⟩) (by assumption) ?rest11
      case hi11 => (simp only [gA, gB, gC]; rfl)
      case hQ11 => exact fun _ _ _ h => h
      case hw11 => rfl
      case hy11 => (intro w hSw; (try dsimp only at hSw); go_simp; try with_reducible rfl)
      (try simp only [Act.put, sA, sB, sC])
      refine wpAnyH_take (i := 9) (oi := ?oi12) (v := ?v12) ?hi12 (by kernel_rfl) (by kernel_rfl) (by kernel_rfl) ?hQ12 (Or.inl ⟨?hw12, ?hy12⟩) (by assumption) ?rest12
      case hi12 => (simp only [gA, gB, gC]; rfl)
      case hQ12 => exact fun _ _ _ h => h
      case hw12 => rfl
      case hy12 => (intro w hSw; (try dsimp only at hSw); go_simp; try with_reducible rfl)
      (try simp only [Act.put, sA, sB, sC])
      refine wpAnyH_ready (rs := [10]) (by kernel_rfl) (by simp) ?_
      refine AllReadyH.cons (o := ?o13) ?ho13 (fun K hK => ?st13) AllReadyH.nil
      case ho13 => (simp only [gA, gB, gC]; rfl)
      go_simp
      refine (E3.out _ (And.left hHeld)).mono ?_; rintro e wD ⟨rfl, hbD⟩
      refine hK.out _ _ ?_ (fun hHeld => ?_)
      · (try dsimp only); (first | exact HKA.out _ _ (by assumption) | exact HK.out _ _ (by assumption) hbA | exact HK.out _ _ (by assumption) hbB | exact HK.out _ _ (by assumption) hbC | exact HK.out _ _ (by assumption) hbD | exact HK.out _ _ (by assumption) hbE | exact HK.out _ _ (by assumption) hbF | exact HK.out _ _ (by assumption) hbG)
      clear hK K
      (try simp only [Act.put, sA, sB, sC])
      refine wpAnyH_take (i := 11) (oi := ?oi14) (v := ?v14) ?hi14 (by kernel_rfl) (by kernel_rfl) (by kernel_rfl) ?hQ14 (Or.inl ⟨?hw14, ?hy14⟩) (by assumption) ?rest14
      case hi14 => (simp only [gA, gB, gC]; rfl)
      case hQ14 => exact fun _ _ _ h => h
      case hw14 => rfl
      case hy14 => (intro w hSw; (try dsimp only at hSw); go_simp; try with_reducible rfl)
      (try simp only [Act.put, sA, sB, sC])
      refine wpAnyH_take (i := 12) (oi := ?oi15) (v := ?v15) ?hi15 (by kernel_rfl) (by kernel_rfl) (by kernel_rfl) ?hQ15 (Or.inl ⟨?hw15, ?hy15⟩) (by assumption) ?rest15
      case hi15 => (simp only [gA, gB, gC]; rfl)
      case hQ15 => exact fun _ _ _ h => h
      case hw15 => rfl
      case hy15 => (intro w hSw; (try dsimp only at hSw); go_simp; try with_reducible rfl)
      (try simp only [Act.put, sA, sB, sC])
      refine wpAnyH_take (i := 13) (oi := ?oi16) (v := ?v16) ?hi16 (by kernel_rfl) (by kernel_rfl) (by kernel_rfl) ?hQ16 (Or.inl ⟨?hw16, ?hy16⟩) (by assumption) ?rest16
      case hi16 => (simp only [gA, gB, gC]; rfl)
      case hQ16 => exact fun _ _ _ h => h
      case hw16 => rfl
      case hy16 => (intro w hSw; (try dsimp only at hSw); go_simp; try with_reducible rfl)
      (try simp only [Act.put, sA, sB, sC])
      refine wpAnyH_take (i := 14) (oi := ?oi17) (v := ?v17) ?hi17 (by kernel_rfl) (by kernel_rfl) (by kernel_rfl) ?hQ17 (Or.inl ⟨?hw17, ?hy17⟩) (by assumption) ?rest17
      case hi17 => (simp only [gA, gB, gC]; rfl)
      case hQ17 => exact fun _ _ _ h => h
      case hw17 => rfl
      case hy17 => (intro w hSw; (try dsimp only at hSw); go_simp; try with_reducible rfl)
      (try simp only [Act.put, sA, sB, sC])
      refine wpAnyH_take (i := 15) (oi := ?oi18) (v := ?v18) ?hi18 (by kernel_rfl) (by kernel_rfl) (by kernel_rfl) ?hQ18 (Or.inl ⟨?hw18, ?hy18⟩) (by assumption) ?rest18
      case hi18 => (simp only [gA, gB, gC]; rfl)
      case hQ18 => exact fun _ _ _ h => h
      case hw18 => rfl
      case hy18 => (intro w hSw; (try dsimp only at hSw); go_simp; try with_reducible rfl)
      (try simp only [Act.put, sA, sB, sC])
      refine wpAnyH_take (i := 16) (oi := ?oi19) (v := ?v19) ?hi19 (by kernel_rfl) (by kernel_rfl) (by kernel_rfl) ?hQ19 (Or.inl ⟨?hw19, ?hy19⟩) (by assumption) ?rest19
      case hi19 => (simp only [gA, gB, gC]; rfl)
      case hQ19 => exact fun _ _ _ h => h
      case hw19 => rfl
      case hy19 => (intro w hSw; (try dsimp only at hSw); go_simp; try with_reducible rfl)
      (try simp only [Act.put, sA, sB, sC])
      refine wpAnyH_take (i := 17) (oi := ?oi20) (v := ?v20) ?hi20 (by kernel_rfl) (by kernel_rfl) (by kernel_rfl) ?hQ20 (Or.inl ⟨?hw20, ?hy20⟩) (by assumption) ?rest20
      case hi20 => (simp only [gA, gB, gC]; rfl)
      case hQ20 => exact fun _ _ _ h => h
      case hw20 => rfl
      case hy20 => (intro w hSw; (try dsimp only at hSw); go_simp; try with_reducible rfl)
      (try simp only [Act.put, sA, sB, sC])
      refine wpAnyH_take (i := 18) (oi := ?oi21) (v := ?v21) ?hi21 (by kernel_rfl) (by kernel_rfl) (by kernel_rfl) ?hQ21 (Or.inl ⟨?hw21, ?hy21⟩) (by assumption) ?rest21
      case hi21 => (simp only [gA, gB, gC]; rfl)
      case hQ21 => exact fun _ _ _ h => h
      case hw21 => rfl
      case hy21 => (intro w hSw; (try dsimp only at hSw); go_simp; try with_reducible rfl)
      (try simp only [Act.put, sA, sB, sC])
      refine wpAnyH_take (i := 19) (oi := ?oi22) (v := ?v22) ?hi22 (by kernel_rfl) (by kernel_rfl) (by kernel_rfl) ?hQ22 (Or.inl ⟨?hw22, ?hy22⟩) (by assumption) ?rest22
      case hi22 => (simp only [gA, gB, gC]; rfl)
      case hQ22 => exact fun _ _ _ h => h
      case hw22 => rfl
      case hy22 => (intro w hSw; (try dsimp only at hSw); go_simp; try with_reducible rfl)
      (try simp only [Act.put, sA, sB, sC])
      refine wpAnyH_take (i := 20) (oi := ?oi23) (v := ?v23) ?hi23 (by kernel_rfl) (by kernel_rfl) (by kernel_rfl) ?hQ23 (Or.inl ⟨?hw23, ?hy23⟩) (by assumption) ?rest23
      case hi23 => (simp only [gA, gB, gC]; rfl)
      case hQ23 => exact fun _ _ _ h => h
      case hw23 => rfl
      case hy23 => (intro w hSw; (try dsimp only at hSw); go_simp; try with_reducible rfl)
      (try simp only [Act.put, sA, sB, sC])
      refine wpAnyH_take (i := 21) (oi := ?oi24) (v := undef) ?hi24 (by kernel_rfl) (by kernel_rfl) (by kernel_rfl) ?hQ24 (Or.inr ⟨?hw24, rfl⟩) (by assumption) ?rest24
      case hi24 => (simp only [gA, gB, gC]; rfl)
      case hQ24 => exact fun _ _ _ h => h
      case hw24 => rfl
      (try simp only [Act.put, sA, sB, sC])
      refine wpAnyH_take (i := 22) (oi := ?oi25) (v := undef) ?hi25 (by kernel_rfl) (by kernel_rfl) (by kernel_rfl) ?hQ25 (Or.inr ⟨?hw25, rfl⟩) (by assumption) ?rest25
      case hi25 => (simp only [gA, gB, gC]; rfl)
      case hQ25 => exact fun _ _ _ h => h
      case hw25 => rfl
      (try simp only [Act.put, sA, sB, sC])
      refine wpAnyH_take (i := 23) (oi := ?oi26) (v := undef) ?hi26 (by kernel_rfl) (by kernel_rfl) (by kernel_rfl) ?hQ26 (Or.inr ⟨?hw26, rfl⟩) (by assumption) ?rest26
      case hi26 => (simp only [gA, gB, gC]; rfl)
      case hQ26 => exact fun _ _ _ h => h
      case hw26 => rfl
      (try simp only [Act.put, sA, sB, sC])
      refine wpAnyH_take (i := 24) (oi := ?oi27) (v := undef) ?hi27 (by kernel_rfl) (by kernel_rfl) (by kernel_rfl) ?hQ27 (Or.inr ⟨?hw27, rfl⟩) (by assumption) ?rest27
      case hi27 => (simp only [gA, gB, gC]; rfl)
      case hQ27 => exact fun _ _ _ h => h
      case hw27 => rfl
      (try simp only [Act.put, sA, sB, sC])
      refine wpAnyH_take (i := 25) (oi := ?oi28) (v := undef) ?hi28 (by kernel_rfl) (by kernel_rfl) (by kernel_rfl) ?hQ28 (Or.inr ⟨?hw28, rfl⟩) (by assumption) ?rest28
      case hi28 => (simp only [gA, gB, gC]; rfl)
      case hQ28 => exact fun _ _ _ h => h
      case hw28 => rfl
      (try simp only [Act.put, sA, sB, sC])
      refine wpAnyH_take (i := 26) (oi := ?oi29) (v := ?v29) ?hi29 (by kernel_rfl) (by kernel_rfl) (by kernel_rfl) ?hQ29 (Or.inl ⟨?hw29, ?hy29⟩) (by assumption) ?rest29
      case hi29 => (simp only [gA, gB, gC]; rfl)
      case hQ29 => exact fun _ _ _ h => h
      case hw29 => rfl
      case hy29 => (intro w hSw; (try dsimp only at hSw); go_simp; try with_reducible rfl)
      (try simp only [Act.put, sA, sB, sC])
      refine wpAnyH_take (i := 27) (oi := ?oi30) (v := ?v30) ?hi30 (by kernel_rfl) (by kernel_rfl) (by kernel_rfl) ?hQ30 (Or.inl ⟨?hw30, ?hy30⟩) (by assumption) ?rest30
      case hi30 => (simp only [gA, gB, gC]; rfl)
      case hQ30 => exact fun _ _ _ h => h
      case hw30 => rfl
      case hy30 => (intro w hSw; (try dsimp only at hSw); go_simp; try with_reducible rfl)
      (try simp only [Act.put, sA, sB, sC])
      refine wpAnyH_take (i := 28) (oi := ?oi31) (v := ?v31) ?hi31 (by kernel_rfl) (by kernel_rfl) (by kernel_rfl) ?hQ31 (Or.inl ⟨?hw31, ?hy31⟩) (by assumption) ?rest31
      case hi31 => (simp only [gA, gB, gC]; rfl)
      case hQ31 => exact fun _ _ _ h => h
      case hw31 => rfl
      case hy31 => (intro w hSw; (try dsimp only at hSw); go_simp; try with_reducible rfl)
      (try simp only [Act.put, sA, sB, sC])
      refine wpAnyH_ready (rs := [29]) (by kernel_rfl) (by simp) ?_
      refine AllReadyH.cons (o := ?o32) ?ho32 (fun K hK => ?st32) AllReadyH.nil
      case ho32 => (simp only [gA, gB, gC]; rfl)
      go_simp
      refine (AWK.out _).mono ?_; rintro e wG ⟨rfl, hbG⟩
      refine hK.out _ _ ?_ (fun hHeld => ?_)
      · (try dsimp only); (first | exact HKA.out _ _ (by assumption) | exact HK.out _ _ (by assumption) hbA | exact HK.out _ _ (by assumption) hbB | exact HK.out _ _ (by assumption) hbC | exact HK.out _ _ (by assumption) hbD | exact HK.out _ _ (by assumption) hbE | exact HK.out _ _ (by assumption) hbF | exact HK.out _ _ (by assumption) hbG)
      clear hK K
      (try simp only [Act.put, sA, sB, sC])
      refine wpAnyH_take (i := 30) (oi := ?oi33) (v := ?v33) ?hi33 (by kernel_rfl) (by kernel_rfl) (by kernel_rfl) ?hQ33 (Or.inl ⟨?hw33, ?hy33⟩) (by assumption) ?rest33
      case hi33 => (simp only [gA, gB, gC]; rfl)
      case hQ33 => exact fun _ _ _ h => h
      case hw33 => rfl
      case hy33 => (intro w hSw; (try dsimp only at hSw); go_simp; try with_reducible rfl)
      (try simp only [Act.put, sA, sB, sC])
      refine wpAnyH_take (i := 31) (oi := ?oi34) (v := ?v34) ?hi34 (by kernel_rfl) (by kernel_rfl) (by kernel_rfl) ?hQ34 (Or.inl ⟨?hw34, ?hy34⟩) (by assumption) ?rest34
      case hi34 => (simp only [gA, gB, gC]; rfl)
      case hQ34 => exact fun _ _ _ h => h
      case hw34 => rfl
      case hy34 => (intro w hSw; (try dsimp only at hSw); go_simp; try with_reducible rfl)
      (try simp only [Act.put, sA, sB, sC])
      refine wpAnyH_done (by kernel_rfl) ?_ _
      go_wp2
      go_ret
      exact ⟨rfl, HL5.out.trans ((And.left hHeld).mono HL5.out.size)⟩
     ·
      go_simp
      refine hK.out _ _ ?_ (fun hHeld => ?_)
      · (try dsimp only); (first | exact HKA.out _ _ (by assumption) | exact HK.out _ _ (by assumption) hbA | exact HK.out _ _ (by assumption) hbB | exact HK.out _ _ (by assumption) hbC | exact HK.out _ _ (by assumption) hbD | exact HK.out _ _ (by assumption) hbE | exact HK.out _ _ (by assumption) hbF | exact HK.out _ _ (by assumption) hbG)
      clear hK K
      (try simp only [Act.put, sA, sB, sC])
      refine wpAnyH_ready (rs := [2]) (by kernel_rfl) (by simp) ?_
      refine AllReadyH.cons (o := ?o35) ?ho35 (fun K hK => ?st35) AllReadyH.nil
      case ho35 => (simp only [gA, gB, gC]; rfl)
      go_simp
      refine (E1.out _ _ (And.left hHeld) (by first | exact nine_bs _ | exact nine_one _ _ | (refine Bs.alloc ?_ _; exact nine_bs _))).mono ?_; rintro e wA ⟨vA, rfl, hsA, hbA⟩
      refine hK.out _ _ ?_ (fun hHeld => ?_)
      · (try dsimp only); (first | exact HKA.out _ _ (by assumption) | exact HK.out _ _ (by assumption) hbA | exact HK.out _ _ (by assumption) hbB | exact HK.out _ _ (by assumption) hbC | exact HK.out _ _ (by assumption) hbD | exact HK.out _ _ (by assumption) hbE | exact HK.out _ _ (by assumption) hbF | exact HK.out _ _ (by assumption) hbG)
      clear hK K
      (try simp only [Act.put, sA, sB, sC])
      refine wpAnyH_ready (rs := [5]) (by kernel_rfl) (by simp) ?_
      refine AllReadyH.cons (o := ?o36) ?ho36 (fun K hK => ?st36) AllReadyH.nil
      case ho36 => (simp only [gA, gB, gC]; rfl)
      go_simp
      refine (E2.out _ _ (And.left hHeld) (by first | exact nine_bs _ | (refine Bs.below ?_ hbA (Nat.le_refl _); first | exact nine_bs _ | exact nine_one _ _ | (refine Bs.alloc ?_ _; exact nine_bs _)))).mono ?_; rintro e wB ⟨vB, rfl, hsB, hbB⟩
      refine hK.out _ _ ?_ (fun hHeld => ?_)
      · (try dsimp only); (first | exact HKA.out _ _ (by assumption) | exact HK.out _ _ (by assumption) hbA | exact HK.out _ _ (by assumption) hbB | exact HK.out _ _ (by assumption) hbC | exact HK.out _ _ (by assumption) hbD | exact HK.out _ _ (by assumption) hbE | exact HK.out _ _ (by assumption) hbF | exact HK.out _ _ (by assumption) hbG)
      clear hK K
      (try simp only [Act.put, sA, sB, sC])
      refine wpAnyH_ready (rs := [6]) (by kernel_rfl) (by simp) ?_
      refine AllReadyH.cons (o := ?o37) ?ho37 (fun K hK => ?st37) AllReadyH.nil
      case ho37 => (simp only [gA, gB, gC]; rfl)
      go_simp
      refine (E4.out _ _ _ out (by first | exact hsA.below hbB (Nat.le_refl _) | exact (hsA.alloc _).below hbB (Nat.le_refl _)) hsB).mono ?_; rintro e wC ⟨rfl, hbC⟩
      refine hK.out _ _ ?_ (fun hHeld => ?_)
      · (try dsimp only); (first | exact HKA.out _ _ (by assumption) | exact HK.out _ _ (by assumption) hbA | exact HK.out _ _ (by assumption) hbB | exact HK.out _ _ (by assumption) hbC | exact HK.out _ _ (by assumption) hbD | exact HK.out _ _ (by assumption) hbE | exact HK.out _ _ (by assumption) hbF | exact HK.out _ _ (by assumption) hbG)
      clear hK K
      (try simp only [Act.put, sA, sB, sC])
      refine wpAnyH_take (i := 7) (oi := ?oi38) (v := ?v38) ?hi38 (by kernel_rfl) (by kernel_rfl) (by kernel_rfl) ?hQ38 (Or.inl ⟨?hw38, ?hy38⟩) (by assumption) ?rest38
      case hi38 => (simp only [gA, gB, gC]; rfl)
      case hQ38 => exact fun _ _ _ h => h
      case hw38 => rfl
      case hy38 => (intro w hSw; (try dsimp only at hSw); go_simp; try with_reducible rfl)
      (try simp only [Act.put, sA, sB, sC])
      refine wpAnyH_take (i := 8) (oi := ?oi39) (v := ?v39) ?hi39 (by kernel_rfl) (by kernel_rfl) (by kernel_rfl) ?hQ39 (Or.inl ⟨?hw39, ?hy39⟩) (by assumption) ?rest39
      case hi39 => (simp only [gA, gB, gC]; rfl)
      case hQ39 => exact fun _ _ _ h => h
      case hw39 => rfl
      case hy39 => (intro w hSw; (try dsimp only at hSw); go_simp; try with_reducible rfl)
      (try simp only [Act.put, sA, sB, sC])
      refine wpAnyH_take (i := 9) (oi := ?oi40) (v := ?v40) ?hi40 (by kernel_rfl) (by kernel_rfl) (by kernel_rfl) ?hQ40 (Or.inl ⟨?hw40, ?hy40⟩) (by assumption) ?rest40
      case hi40 => (simp only [gA, gB, gC]; rfl)
      case hQ40 => exact fun _ _ _ h => h
      case hw40 => rfl
      case hy40 => (intro w hSw; (try dsimp only at hSw); go_simp; try with_reducible rfl)
      (try simp only [Act.put, sA, sB, sC])
      refine wpAnyH_ready (rs := [10]) (by kernel_rfl) (by simp) ?_
      refine AllReadyH.cons (o := ?o41) ?ho41 (fun K hK => ?st41) AllReadyH.nil
      case ho41 => (simp only [gA, gB, gC]; rfl)
      go_simp
      refine (E3.out _ (And.left hHeld)).mono ?_; rintro e wD ⟨rfl, hbD⟩
      refine hK.out _ _ ?_ (fun hHeld => ?_)
      · (try dsimp only); (first | exact HKA.out _ _ (by assumption) | exact HK.out _ _ (by assumption) hbA | exact HK.out _ _ (by assumption) hbB | exact HK.out _ _ (by assumption) hbC | exact HK.out _ _ (by assumption) hbD | exact HK.out _ _ (by assumption) hbE | exact HK.out _ _ (by assumption) hbF | exact HK.out _ _ (by assumption) hbG)
      clear hK K
      (try simp only [Act.put, sA, sB, sC])
      refine wpAnyH_take (i := 11) (oi := ?oi42) (v := ?v42) ?hi42 (by kernel_rfl) (by kernel_rfl) (by kernel_rfl) ?hQ42 (Or.inl ⟨?hw42, ?hy42⟩) (by assumption) ?rest42
      case hi42 => (simp only [gA, gB, gC]; rfl)
      case hQ42 => exact fun _ _ _ h => h
      case hw42 => rfl
      case hy42 => (intro w hSw; (try dsimp only at hSw); go_simp; try with_reducible rfl)
      (try simp only [Act.put, sA, sB, sC])
      refine wpAnyH_take (i := 12) (oi := ?oi43) (v := ?v43) ?hi43 (by kernel_rfl) (by kernel_rfl) (by kernel_rfl) ?hQ43 (Or.inl ⟨?hw43, ?hy43⟩) (by assumption) ?rest43
      case hi43 => (simp only [gA, gB, gC]; rfl)
      case hQ43 => exact fun _ _ _ h => h
      case hw43 => rfl
      case hy43 => (intro w hSw; (try dsimp only at hSw); go_simp; try with_reducible rfl)
      (try simp only [Act.put, sA, sB, sC])
      refine wpAnyH_take (i := 13) (oi := ?oi44) (v := ?v44) ?hi44 (by kernel_rfl) (by kernel_rfl) (by kernel_rfl) ?hQ44 (Or.inl ⟨?hw44, ?hy44⟩) (by assumption) ?rest44
      case hi44 => (simp only [gA, gB, gC]; rfl)
      case hQ44 => exact fun _ _ _ h => h
      case hw44 => rfl
      case hy44 => (intro w hSw; (try dsimp only at hSw); go_simp; try with_reducible rfl)
      (try simp only [Act.put, sA, sB, sC])
      refine wpAnyH_take (i := 14) (oi := ?oi45) (v := ?v45) ?hi45 (by kernel_rfl) (by kernel_rfl) (by kernel_rfl) ?hQ45 (Or.inl ⟨?hw45, ?hy45⟩) (by assumption) ?rest45
      case hi45 => (simp only [gA, gB, gC]; rfl)
      case hQ45 => exact fun _ _ _ h => h
      case hw45 => rfl
      case hy45 => (intro w hSw; (try dsimp only at hSw); go_simp; try with_reducible rfl)
      (try simp only [Act.put, sA, sB, sC])
      refine wpAnyH_take (i := 15) (oi := ?oi46) (v := ?v46) ?hi46 (by kernel_rfl) (by kernel_rfl) (by kernel_rfl) ?hQ46 (Or.inl ⟨?hw46, ?hy46⟩) (by assumption) ?rest46
      case hi46 => (simp only [gA, gB, gC]; rfl)
      case hQ46 => exact fun _ _ _ h => h
      case hw46 => rfl
      case hy46 => (intro w hSw; (try dsimp only at hSw); go_simp; try with_reducible rfl)
      (try simp only [Act.put, sA, sB, sC])
      refine wpAnyH_take (i := 16) (oi := ?oi47) (v := ?v47) ?hi47 (by kernel_rfl) (by kernel_rfl) (by kernel_rfl) ?hQ47 (Or.inl ⟨?hw47, ?hy47⟩) (by assumption) ?rest47
      case hi47 => (simp only [gA, gB, gC]; rfl)
      case hQ47 => exact fun _ _ _ h => h
      case hw47 => rfl
      case hy47 => (intro w hSw; (try dsimp only at hSw); go_simp; try with_reducible rfl)
      (try simp only [Act.put, sA, sB, sC])
      refine wpAnyH_take (i := 17) (oi := ?oi48) (v := ?v48) ?hi48 (by kernel_rfl) (by kernel_rfl) (by kernel_rfl) ?hQ48 (Or.inl ⟨?hw48, ?hy48⟩) (by assumption) ?rest48
      case hi48 => (simp only [gA, gB, gC]; rfl)
      case hQ48 => exact fun _ _ _ h => h
      case hw48 => rfl
      case hy48 => (intro w hSw; (try dsimp only at hSw); go_simp; try with_reducible rfl)
      (try simp only [Act.put, sA, sB, sC])
      refine wpAnyH_take (i := 18) (oi := ?oi49) (v := ?v49) ?hi49 (by kernel_rfl) (by kernel_rfl) (by kernel_rfl) ?hQ49 (Or.inl ⟨?hw49, ?hy49⟩) (by assumption) ?rest49
      case hi49 => (simp only [gA, gB, gC]; rfl)
      case hQ49 => exact fun _ _ _ h => h
      case hw49 => rfl
      case hy49 => (intro w hSw; (try dsimp only at hSw); go_simp; try with_reducible rfl)
      (try simp only [Act.put, sA, sB, sC])
      refine wpAnyH_take (i := 19) (oi := ?oi50) (v := ?v50) ?hi50 (by kernel_rfl) (by kernel_rfl) (by kernel_rfl) ?hQ50 (Or.inl ⟨?hw50, ?hy50⟩) (by assumption) ?rest50
      case hi50 => (simp only [gA, gB, gC]; rfl)
      case hQ50 => exact fun _ _ _ h => h
      case hw50 => rfl
      case hy50 => (intro w hSw; (try dsimp only at hSw); go_simp; try with_reducible rfl)
      (try simp only [Act.put, sA, sB, sC])
      refine wpAnyH_take (i := 20) (oi := ?oi51) (v := ?v51) ?hi51 (by kernel_rfl) (by kernel_rfl) (by kernel_rfl) ?hQ51 (Or.inl ⟨?hw51, ?hy51⟩) (by assumption) ?rest51
      case hi51 => (simp only [gA, gB, gC]; rfl)
      case hQ51 => exact fun _ _ _ h => h
      case hw51 => rfl
      case hy51 => (intro w hSw; (try dsimp only at hSw); go_simp; try with_reducible rfl)
      (try simp only [Act.put, sA, sB, sC])
      refine wpAnyH_take (i := 21) (oi := ?oi52) (v := undef) ?hi52 (by kernel_rfl) (by kernel_rfl) (by kernel_rfl) ?hQ52 (Or.inr ⟨?hw52, rfl⟩) (by assumption) ?rest52
      case hi52 => (simp only [gA, gB, gC]; rfl)
      case hQ52 => exact fun _ _ _ h => h
      case hw52 => rfl
      (try simp only [Act.put, sA, sB, sC])
      refine wpAnyH_take (i := 22) (oi := ?oi53) (v := undef) ?hi53 (by kernel_rfl) (by kernel_rfl) (by kernel_rfl) ?hQ53 (Or.inr ⟨?hw53, rfl⟩) (by assumption) ?rest53
      case hi53 => (simp only [gA, gB, gC]; rfl)
      case hQ53 => exact fun _ _ _ h => h
      case hw53 => rfl
      (try simp only [Act.put, sA, sB, sC])
      refine wpAnyH_take (i := 23) (oi := ?oi54) (v := undef) ?hi54 (by kernel_rfl) (by kernel_rfl) (by kernel_rfl) ?hQ54 (Or.inr ⟨?hw54, rfl⟩) (by assumption) ?rest54
      case hi54 => (simp only [gA, gB, gC]; rfl)
      case hQ54 => exact fun _ _ _ h => h
      case hw54 => rfl
      (try simp only [Act.put, sA, sB, sC])
      refine wpAnyH_take (i := 24) (oi := ?oi55) (v := undef) ?hi55 (by kernel_rfl) (by kernel_rfl) (by kernel_rfl) ?hQ55 (Or.inr ⟨?hw55, rfl⟩) (by assumption) ?rest55
      case hi55 => (simp only [gA, gB, gC]; rfl)
      case hQ55 => exact fun _ _ _ h => h
      case hw55 => rfl
      (try simp only [Act.put, sA, sB, sC])
      refine wpAnyH_take (i := 25) (oi := ?oi56) (v := undef) ?hi56 (by kernel_rfl) (by kernel_rfl) (by kernel_rfl) ?hQ56 (Or.inr ⟨?hw56, rfl⟩) (by assumption) ?rest56
      case hi56 => (simp only [gA, gB, gC]; rfl)
      case hQ56 => exact fun _ _ _ h => h
      case hw56 => rfl
      (try simp only [Act.put, sA, sB, sC])
      refine wpAnyH_take (i := 26) (oi := ?oi57) (v := ?v57) ?hi57 (by kernel_rfl) (by kernel_rfl) (by kernel_rfl) ?hQ57 (Or.inl ⟨?hw57, ?hy57⟩) (by assumption) ?rest57
      case hi57 => (simp only [gA, gB, gC]; rfl)
      case hQ57 => exact fun _ _ _ h => h
      case hw57 => rfl
      case hy57 => (intro w hSw; (try dsimp only at hSw); go_simp; try with_reducible rfl)
      (try simp only [Act.put, sA, sB, sC])
      refine wpAnyH_take (i := 27) (oi := ?oi58) (v := ?v58) ?hi58 (by kernel_rfl) (by kernel_rfl) (by kernel_rfl) ?hQ58 (Or.inl ⟨?hw58, ?hy58⟩) (by assumption) ?rest58
      case hi58 => (simp only [gA, gB, gC]; rfl)
      case hQ58 => exact fun _ _ _ h => h
      case hw58 => rfl
      case hy58 => (intro w hSw; (try dsimp only at hSw); go_simp; try with_reducible rfl)
      (try simp only [Act.put, sA, sB, sC])
      refine wpAnyH_take (i := 28) (oi := ?oi59) (v := ?v59) ?hi59 (by kernel_rfl) (by kernel_rfl) (by kernel_rfl) ?hQ59 (Or.inl ⟨?hw59, ?hy59⟩) (by assumption) ?rest59
      case hi59 => (simp only [gA, gB, gC]; rfl)
      case hQ59 => exact fun _ _ _ h => h
      case hw59 => rfl
      case hy59 => (intro w hSw; (try dsimp only at hSw); go_simp; try with_reducible rfl)
      (try simp only [Act.put, sA, sB, sC])
      refine wpAnyH_ready (rs := [29]) (by kernel_rfl) (by simp) ?_
      refine AllReadyH.cons (o := ?o60) ?ho60 (fun K hK => ?st60) AllReadyH.nil
      case ho60 => (simp only [gA, gB, gC]; rfl)
      go_simp
      refine (AWK.out _).mono ?_; rintro e wG ⟨rfl, hbG⟩
      refine hK.out _ _ ?_ (fun hHeld => ?_)
      · (try dsimp only); (first | exact HKA.out _ _ (by assumption) | exact HK.out _ _ (by assumption) hbA | exact HK.out _ _ (by assumption) hbB | exact HK.out _ _ (by assumption) hbC | exact HK.out _ _ (by assumption) hbD | exact HK.out _ _ (by assumption) hbE | exact HK.out _ _ (by assumption) hbF | exact HK.out _ _ (by assumption) hbG)
      clear hK K
      (try simp only [Act.put, sA, sB, sC])
      refine wpAnyH_take (i := 30) (oi := ?oi61) (v := ?v61) ?hi61 (by kernel_rfl) (by kernel_rfl) (by kernel_rfl) ?hQ61 (Or.inl ⟨?hw61, ?hy61⟩) (by assumption) ?rest61
      case hi61 => (simp only [gA, gB, gC]; rfl)
      case hQ61 => exact fun _ _ _ h => h
      case hw61 => rfl
      case hy61 => (intro w hSw; (try dsimp only at hSw); go_simp; try with_reducible rfl)
      (try simp only [Act.put, sA, sB, sC])
      refine wpAnyH_take (i := 31) (oi := ?oi62) (v := ?v62) ?hi62 (by kernel_rfl) (by kernel_rfl) (by kernel_rfl) ?hQ62 (Or.inl ⟨?hw62, ?hy62⟩) (by assumption) ?rest62
      case hi62 => (simp only [gA, gB, gC]; rfl)
      case hQ62 => exact fun _ _ _ h => h
      case hw62 => rfl
      case hy62 => (intro w hSw; (try dsimp only at hSw); go_simp; try with_reducible rfl)
      (try simp only [Act.put, sA, sB, sC])
      refine wpAnyH_done (by kernel_rfl) ?_ _
      go_wp2
      go_ret
      exact ⟨rfl, HL5.out.trans ((And.left hHeld).mono HL5.out.size)⟩
    ·
     go_simp
     refine hK.out _ _ ?_ (fun hHeld => ?_)
     · (try dsimp only); (first | exact HKA.out _ _ (by assumption) | exact HK.out _ _ (by assumption) hbA | exact HK.out _ _ (by assumption) hbB | exact HK.out _ _ (by assumption) hbC | exact HK.out _ _ (by assumption) hbD | exact HK.out _ _ (by assumption) hbE | exact HK.out _ _ (by assumption) hbF | exact HK.out _ _ (by assumption) hbG)
     clear hK K
     (try simp only [Act.put, sA, sB, sC])
     refine wpAnyH_ready (rs := [0]) (by kernel_rfl) (by simp) ?_
     refine AllReadyH.cons (o := ?o63) ?ho63 (fun K hK => ?st63) AllReadyH.nil
     case ho63 => (simp only [gA, gB, gC]; rfl)
     go_simp
     refine hK.out _ _ ?_ (fun hHeld => ?_)
     · (try dsimp only); (first | exact HKA.out _ _ (by assumption) | exact HK.out _ _ (by assumption) hbA | exact HK.out _ _ (by assumption) hbB | exact HK.out _ _ (by assumption) hbC | exact HK.out _ _ (by assumption) hbD | exact HK.out _ _ (by assumption) hbE | exact HK.out _ _ (by assumption) hbF | exact HK.out _ _ (by assumption) hbG)
     clear hK K
     (try simp only [Act.put, sA, sB, sC])
     refine wpAnyH_ready (rs := [2]) (by kernel_rfl) (by simp) ?_
     refine AllReadyH.cons (o := ?o64) ?ho64 (fun K hK => ?st64) AllReadyH.nil
     case ho64 => (simp only [gA, gB, gC]; rfl)
     go_simp
     refine (E1.out _ _ (And.left hHeld) (by first | exact nine_bs _ | exact nine_one _ _ | (refine Bs.alloc ?_ _; exact nine_bs _))).mono ?_; rintro e wA ⟨vA, rfl, hsA, hbA⟩
     refine hK.out _ _ ?_ (fun hHeld => ?_)
     · (try dsimp only); (first | exact HKA.out _ _ (by assumption) | exact HK.out _ _ (by assumption) hbA | exact HK.out _ _ (by assumption) hbB | exact HK.out _ _ (by assumption) hbC | exact HK.out _ _ (by assumption) hbD | exact HK.out _ _ (by assumption) hbE | exact HK.out _ _ (by assumption) hbF | exact HK.out _ _ (by assumption) hbG)
     clear hK K
     (try simp only [Act.put, sA, sB, sC])
     refine wpAnyH_ready (rs := [5]) (by kernel_rfl) (by simp) ?_
     refine AllReadyH.cons (o := ?o65) ?ho65 (fun K hK => ?st65) AllReadyH.nil
     case ho65 => (simp only [gA, gB, gC]; rfl)
     go_simp
     refine (E2.out _ _ (And.left hHeld) (by first | exact nine_bs _ | (refine Bs.below ?_ hbA (Nat.le_refl _); first | exact nine_bs _ | exact nine_one _ _ | (refine Bs.alloc ?_ _; exact nine_bs _)))).mono ?_; rintro e wB ⟨vB, rfl, hsB, hbB⟩
     refine hK.out _ _ ?_ (fun hHeld => ?_)
     · (try dsimp only); (first | exact HKA.out _ _ (by assumption) | exact HK.out _ _ (by assumption) hbA | exact HK.out _ _ (by assumption) hbB | exact HK.out _ _ (by assumption) hbC | exact HK.out _ _ (by assumption) hbD | exact HK.out _ _ (by assumption) hbE | exact HK.out _ _ (by assumption) hbF | exact HK.out _ _ (by assumption) hbG)
     clear hK K
     (try simp only [Act.put, sA, sB, sC])
     refine wpAnyH_ready (rs := [6]) (by kernel_rfl) (by simp) ?_
     refine AllReadyH.cons (o := ?o66) ?ho66 (fun K hK => ?st66) AllReadyH.nil
     case ho66 => (simp only [gA, gB, gC]; rfl)
     go_simp
     refine (E4.out _ _ _ out (by first | exact hsA.below hbB (Nat.le_refl _) | exact (hsA.alloc _).below hbB (Nat.le_refl _)) hsB).mono ?_; rintro e wC ⟨rfl, hbC⟩
     refine hK.out _ _ ?_ (fun hHeld => ?_)
     · (try dsimp only); (first | exact HKA.out _ _ (by assumption) | exact HK.out _ _ (by assumption) hbA | exact HK.out _ _ (by assumption) hbB | exact HK.out _ _ (by assumption) hbC | exact HK.out _ _ (by assumption) hbD | exact HK.out _ _ (by assumption) hbE | exact HK.out _ _ (by assumption) hbF | exact HK.out _ _ (by assumption) hbG)
     clear hK K
     (try simp only [Act.put, sA, sB, sC])
     refine wpAnyH_take (i := 7) (oi := ?oi67) (v := ?v67) ?hi67 (by kernel_rfl) (by kernel_rfl) (by kernel_rfl) ?hQ67 (Or.inl ⟨?hw67, ?hy67⟩) (by assumption) ?rest67
     case hi67 => (simp only [gA, gB, gC]; rfl)
     case hQ67 => exact fun _ _ _ h => h
     case hw67 => rfl
     case hy67 => (intro w hSw; (try dsimp only at hSw); go_simp; try with_reducible rfl)
     (try simp only [Act.put, sA, sB, sC])
     refine wpAnyH_take (i := 8) (oi := ?oi68) (v := ?v68) ?hi68 (by kernel_rfl) (by kernel_rfl) (by kernel_rfl) ?hQ68 (Or.inl ⟨?hw68, ?hy68⟩) (by assumption) ?rest68
     case hi68 => (simp only [gA, gB, gC]; rfl)
     case hQ68 => exact fun _ _ _ h => h
     case hw68 => rfl
     case hy68 => (intro w hSw; (try dsimp only at hSw); go_simp; try with_reducible rfl)
     (try simp only [Act.put, sA, sB, sC])
     refine wpAnyH_take (i := 9) (oi := ?oi69) (v := ?v69) ?hi69 (by kernel_rfl) (by kernel_rfl) (by kernel_rfl) ?hQ69 (Or.inl ⟨?hw69, ?hy69⟩) (by assumption) ?rest69
     case hi69 => (simp only [gA, gB, gC]; rfl)
     case hQ69 => exact fun _ _ _ h => h
     case hw69 => rfl
     case hy69 => (intro w hSw; (try dsimp only at hSw); go_simp; try with_reducible rfl)
     (try simp only [Act.put, sA, sB, sC])
     refine wpAnyH_ready (rs := [10]) (by kernel_rfl) (by simp) ?_
     refine AllReadyH.cons (o := ?o70) ?ho70 (fun K hK => ?st70) AllReadyH.nil
     case ho70 => (simp only [gA, gB, gC]; rfl)
     go_simp
     refine (E3.out _ (And.left hHeld)).mono ?_; rintro e wD ⟨rfl, hbD⟩
     refine hK.out _ _ ?_ (fun hHeld => ?_)
     · (try dsimp only); (first | exact HKA.out _ _ (by assumption) | exact HK.out _ _ (by assumption) hbA | exact HK.out _ _ (by assumption) hbB | exact HK.out _ _ (by assumption) hbC | exact HK.out _ _ (by assumption) hbD | exact HK.out _ _ (by assumption) hbE | exact HK.out _ _ (by assumption) hbF | exact HK.out _ _ (by assumption) hbG)
     clear hK K
     (try simp only [Act.put, sA, sB, sC])
     refine wpAnyH_take (i := 11) (oi := ?oi71) (v := ?v71) ?hi71 (by kernel_rfl) (by kernel_rfl) (by kernel_rfl) ?hQ71 (Or.inl ⟨?hw71, ?hy71⟩) (by assumption) ?rest71
     case hi71 => (simp only [gA, gB, gC]; rfl)
     case hQ71 => exact fun _ _ _ h => h
     case hw71 => rfl
     case hy71 => (intro w hSw; (try dsimp only at hSw); go_simp; try with_reducible rfl)
     (try simp only [Act.put, sA, sB, sC])
     refine wpAnyH_take (i := 12) (oi := ?oi72) (v := ?v72) ?hi72 (by kernel_rfl) (by kernel_rfl) (by kernel_rfl) ?hQ72 (Or.inl ⟨?hw72, ?hy72⟩) (by assumption) ?rest72
     case hi72 => (simp only [gA, gB, gC]; rfl)
     case hQ72 => exact fun _ _ _ h => h
     case hw72 => rfl
     case hy72 => (intro w hSw; (try dsimp only at hSw); go_simp; try with_reducible rfl)
     (try simp only [Act.put, sA, sB, sC])
     refine wpAnyH_take (i := 13) (oi := ?oi73) (v := ?v73) ?hi73 (by kernel_rfl) (by kernel_rfl) (by kernel_rfl) ?hQ73 (Or.inl ⟨?hw73, ?hy73⟩) (by assumption) ?rest73
     case hi73 => (simp only [gA, gB, gC]; rfl)
     case hQ73 => exact fun _ _ _ h => h
     case hw73 => rfl
     case hy73 => (intro w hSw; (try dsimp only at hSw); go_simp; try with_reducible rfl)
     (try simp only [Act.put, sA, sB, sC])
     refine wpAnyH_take (i := 14) (oi := ?oi74) (v := ?v74) ?hi74 (by kernel_rfl) (by kernel_rfl) (by kernel_rfl) ?hQ74 (Or.inl ⟨?hw74, ?hy74⟩) (by assumption) ?rest74
     case hi74 => (simp only [gA, gB, gC]; rfl)
     case hQ74 => exact fun _ _ _ h => h
     case hw74 => rfl
     case hy74 => (intro w hSw; (try dsimp only at hSw); go_simp; try with_reducible rfl)
     (try simp only [Act.put, sA, sB, sC])
     refine wpAnyH_take (i := 15) (oi := ?oi75) (v := ?v75) ?hi75 (by kernel_rfl) (by kernel_rfl) (by kernel_rfl) ?hQ75 (Or.inl ⟨?hw75, ?hy75⟩) (by assumption) ?rest75
     case hi75 => (simp only [gA, gB, gC]; rfl)
     case hQ75 => exact fun _ _ _ h => h
     case hw75 => rfl
     case hy75 => (intro w hSw; (try dsimp only at hSw); go_simp; try with_reducible rfl)
     (try simp only [Act.put, sA, sB, sC])
     refine wpAnyH_take (i := 16) (oi := ?oi76) (v := ?v76) ?hi76 (by kernel_rfl) (by kernel_rfl) (by kernel_rfl) ?hQ76 (Or.inl ⟨?hw76, ?hy76⟩) (by assumption) ?rest76
     case hi76 => (simp only [gA, gB, gC]; rfl)
     case hQ76 => exact fun _ _ _ h => h
     case hw76 => rfl
     case hy76 => (intro w hSw; (try dsimp only at hSw); go_simp; try with_reducible rfl)
     (try simp only [Act.put, sA, sB, sC])
     refine wpAnyH_take (i := 17) (oi := ?oi77) (v := ?v77) ?hi77 (by kernel_rfl) (by kernel_rfl) (by kernel_rfl) ?hQ77 (Or.inl ⟨?hw77, ?hy77⟩) (by assumption) ?rest77
     case hi77 => (simp only [gA, gB, gC]; rfl)
     case hQ77 => exact fun _ _ _ h => h
     case hw77 => rfl
     case hy77 => (intro w hSw; (try dsimp only at hSw); go_simp; try with_reducible rfl)
     (try simp only [Act.put, sA, sB, sC])
     refine wpAnyH_take (i := 18) (oi := ?oi78) (v := ?v78) ?hi78 (by kernel_rfl) (by kernel_rfl) (by kernel_rfl) ?hQ78 (Or.inl ⟨?hw78, ?hy78⟩) (by assumption) ?rest78
     case hi78 => (simp only [gA, gB, gC]; rfl)
     case hQ78 => exact fun _ _ _ h => h
     case hw78 => rfl
     case hy78 => (intro w hSw; (try dsimp only at hSw); go_simp; try with_reducible rfl)
     (try simp only [Act.put, sA, sB, sC])
     refine wpAnyH_take (i := 19) (oi := ?oi79) (v := ?v79) ?hi79 (by kernel_rfl) (by kernel_rfl) (by kernel_rfl) ?hQ79 (Or.inl ⟨?hw79, ?hy79⟩) (by assumption) ?rest79
     case hi79 => (simp only [gA, gB, gC]; rfl)
     case hQ79 => exact fun _ _ _ h => h
     case hw79 => rfl
     case hy79 => (intro w hSw; (try dsimp only at hSw); go_simp; try with_reducible rfl)
     (try simp only [Act.put, sA, sB, sC])
     refine wpAnyH_take (i := 20) (oi := ?oi80) (v := ?v80) ?hi80 (by kernel_rfl) (by kernel_rfl) (by kernel_rfl) ?hQ80 (Or.inl ⟨?hw80, ?hy80⟩) (by assumption) ?rest80
     case hi80 => (simp only [gA, gB, gC]; rfl)
     case hQ80 => exact fun _ _ _ h => h
     case hw80 => rfl
     case hy80 => (intro w hSw; (try dsimp only at hSw); go_simp; try with_reducible rfl)
     (try simp only [Act.put, sA, sB, sC])
     refine wpAnyH_take (i := 21) (oi := ?oi81) (v := undef) ?hi81 (by kernel_rfl) (by kernel_rfl) (by kernel_rfl) ?hQ81 (Or.inr ⟨?hw81, rfl⟩) (by assumption) ?rest81
     case hi81 => (simp only [gA, gB, gC]; rfl)
     case hQ81 => exact fun _ _ _ h => h
     case hw81 => rfl
     (try simp only [Act.put, sA, sB, sC])
     refine wpAnyH_take (i := 22) (oi := ?oi82) (v := undef) ?hi82 (by kernel_rfl) (by kernel_rfl) (by kernel_rfl) ?hQ82 (Or.inr ⟨?hw82, rfl⟩) (by assumption) ?rest82
     case hi82 => (simp only [gA, gB, gC]; rfl)
     case hQ82 => exact fun _ _ _ h => h
     case hw82 => rfl
     (try simp only [Act.put, sA, sB, sC])
     refine wpAnyH_take (i := 23) (oi := ?oi83) (v := undef) ?hi83 (by kernel_rfl) (by kernel_rfl) (by kernel_rfl) ?hQ83 (Or.inr ⟨?hw83, rfl⟩) (by assumption) ?rest83
     case hi83 => (simp only [gA, gB, gC]; rfl)
     case hQ83 => exact fun _ _ _ h => h
     case hw83 => rfl
     (try simp only [Act.put, sA, sB, sC])
     refine wpAnyH_take (i := 24) (oi := ?oi84) (v := undef) ?hi84 (by kernel_rfl) (by kernel_rfl) (by kernel_rfl) ?hQ84 (Or.inr ⟨?hw84, rfl⟩) (by assumption) ?rest84
     case hi84 => (simp only [gA, gB, gC]; rfl)
     case hQ84 => exact fun _ _ _ h => h
     case hw84 => rfl
     (try simp only [Act.put, sA, sB, sC])
     refine wpAnyH_take (i := 25) (oi := ?oi85) (v := undef) ?hi85 (by kernel_rfl) (by kernel_rfl) (by kernel_rfl) ?hQ85 (Or.inr ⟨?hw85, rfl⟩) (by assumption) ?rest85
     case hi85 => (simp only [gA, gB, gC]; rfl)
     case hQ85 => exact fun _ _ _ h => h
     case hw85 => rfl
     (try simp only [Act.put, sA, sB, sC])
     refine wpAnyH_take (i := 26) (oi := ?oi86) (v := ?v86) ?hi86 (by kernel_rfl) (by kernel_rfl) (by kernel_rfl) ?hQ86 (Or.inl ⟨?hw86, ?hy86⟩) (by assumption) ?rest86
     case hi86 => (simp only [gA, gB, gC]; rfl)
     case hQ86 => exact fun _ _ _ h => h
     case hw86 => rfl
     case hy86 => (intro w hSw; (try dsimp only at hSw); go_simp; try with_reducible rfl)
     (try simp only [Act.put, sA, sB, sC])
     refine wpAnyH_take (i := 27) (oi := ?oi87) (v := ?v87) ?hi87 (by kernel_rfl) (by kernel_rfl) (by kernel_rfl) ?hQ87 (Or.inl ⟨?hw87, ?hy87⟩) (by assumption) ?rest87
     case hi87 => (simp only [gA, gB, gC]; rfl)
     case hQ87 => exact fun _ _ _ h => h
     case hw87 => rfl
     case hy87 => (intro w hSw; (try dsimp only at hSw); go_simp; try with_reducible rfl)
     (try simp only [Act.put, sA, sB, sC])
     refine wpAnyH_take (i := 28) (oi := ?oi88) (v := ?v88) ?hi88 (by kernel_rfl) (by kernel_rfl) (by kernel_rfl) ?hQ88 (Or.inl ⟨?hw88, ?hy88⟩) (by assumption) ?rest88
     case hi88 => (simp only [gA, gB, gC]; rfl)
     case hQ88 => exact fun _ _ _ h => h
     case hw88 => rfl
     case hy88 => (intro w hSw; (try dsimp only at hSw); go_simp; try with_reducible rfl)
     (try simp only [Act.put, sA, sB, sC])
     refine wpAnyH_ready (rs := [29]) (by kernel_rfl) (by simp) ?_
     refine AllReadyH.cons (o := ?o89) ?ho89 (fun K hK => ?st89) AllReadyH.nil
     case ho89 => (simp only [gA, gB, gC]; rfl)
     go_simp
     refine (AWK.out _).mono ?_; rintro e wG ⟨rfl, hbG⟩
     refine hK.out _ _ ?_ (fun hHeld => ?_)
     · (try dsimp only); (first | exact HKA.out _ _ (by assumption) | exact HK.out _ _ (by assumption) hbA | exact HK.out _ _ (by assumption) hbB | exact HK.out _ _ (by assumption) hbC | exact HK.out _ _ (by assumption) hbD | exact HK.out _ _ (by assumption) hbE | exact HK.out _ _ (by assumption) hbF | exact HK.out _ _ (by assumption) hbG)
     clear hK K
     (try simp only [Act.put, sA, sB, sC])
     refine wpAnyH_take (i := 30) (oi := ?oi90) (v := ?v90) ?hi90 (by kernel_rfl) (by kernel_rfl) (by kernel_rfl) ?hQ90 (Or.inl ⟨?hw90, ?hy90⟩) (by assumption) ?rest90
     case hi90 => (simp only [gA, gB, gC]; rfl)
     case hQ90 => exact fun _ _ _ h => h
     case hw90 => rfl
     case hy90 => (intro w hSw; (try dsimp only at hSw); go_simp; try with_reducible rfl)
     (try simp only [Act.put, sA, sB, sC])
     refine wpAnyH_take (i := 31) (oi := ?oi91) (v := ?v91) ?hi91 (by kernel_rfl) (by kernel_rfl) (by kernel_rfl) ?hQ91 (Or.inl ⟨?hw91, ?hy91⟩) (by assumption) ?rest91
     case hi91 => (simp only [gA, gB, gC]; rfl)
     case hQ91 => exact fun _ _ _ h => h
     case hw91 => rfl
     case hy91 => (intro w hSw; (try dsimp only at hSw); go_simp; try with_reducible rfl)
     (try simp only [Act.put, sA, sB, sC])
     refine wpAnyH_done (by kernel_rfl) ?_ _
     go_wp2
     go_ret
     exact ⟨rfl, HL5.out.trans ((And.left hHeld).mono HL5.out.size)⟩
theorem ExprCodes_any (D : Nat) (e : Ex) (A : Option Addr) (c : Nat) (b : Value) (l : List UInt8) (w : World) (hx : ExK w D A c e) (hok : okX 6 e) (hb : Bs w b l) (awk : ∀ W, Calls Tryz.prog 22 #[] W (VMk (.bool true) W)) :
    Calls Tryz.prog 3 #[agX e.op A e.kids.length c e.name e.val, b] w (VMk (.bool true) w) := by
  obtain ⟨Ab, cb, rfl, -⟩ := hb.open
  have hsf := fun (w : World) (a : Addr) (m : Mode) (b : Nat) => run_store Tryz.prog w a (.float .f64 b) m rfl
  by_cases hln : 5000 < l.length
  · have hl' : (5000 : Int) < (l.length : Int) := by omega
    clear hln hx hok hb
    generalize e.op = eop at *
    generalize e.name = enm at *
    generalize e.val = ev at *
    generalize e.kids.length = n at *
    go_enter Tryz.func3, Tryz.ntmps3
    go_wp2
    go_ret
    exact ⟨rfl, alloc1 _ _⟩
  have qs : ∀ W, Below w.heap.size w W → Calls Tryz.prog 11 #[agX e.op A e.kids.length c e.name e.val] W (VMk (.bool (smallX e)) W) := fun W hW => rSmall_any D e A c W (hx.below hW (Nat.le_refl _))
  have ql : smallX e = true → ∀ W, Below w.heap.size w W → Calls Tryz.prog 12 #[agX e.op A e.kids.length c e.name e.val] W (VMk (.bool (longX 6 e)) W) := fun h W hW => long_any D 6 e A c W (hx.below hW (Nat.le_refl _)) ((smallX_iff e).1 h).1
  by_cases hsl : (smallX e && longX 6 e) = false
  · exact ExprCodes_walk D e A c _ l w hx hok (fun h => txt_small h (shX_long 6 e (by rw [h, Bool.true_and] at hsl; exact hsl))) hb (by omega) awk (smallX e) (longX 6 e) hsl qs ql
  · have hs2 : smallX e = true ∧ longX 6 e = true := by
      rw [Bool.not_eq_false, Bool.and_eq_true] at hsl
      exact hsl
    rw [hs2.1] at qs
    have ql2 := ql hs2.1
    rw [hs2.2] at ql2
    have QS := Lib.hid qs
    have QL := Lib.hid ql2
    have hl' : ¬ (5000 : Int) < (l.length : Int) := by omega
    clear hln hx hok hb qs ql ql2 hsl hs2
    generalize e.op = eop at *
    generalize e.name = enm at *
    generalize e.val = ev at *
    generalize e.kids.length = n at *
    have HK0 := Lib.hid (Kid_new w eop A n c enm ev)
    have HW0 := Lib.hid (alloc1 w (bxX eop A n c enm ev))
    go_enter Tryz.func3, Tryz.ntmps3
    obtain ⟨x0, x1, x2, x3, x4, x5, x6, x7⟩ := HK0.out
    go_wp2_with fail
    refine (QS.out _ HW0.out).mono ?_
    rintro _ w1 ⟨rfl, hb1⟩
    clear x0 x1 x2 x3 x4 x5 x6 x7
    have HW1 := Lib.hid (bel2 HW0.out hb1)
    obtain ⟨x0, x1, x2, x3, x4, x5, x6, x7⟩ := HK0.out.below hb1
    clear hb1
    go_wp2_with fail
    refine (QL.out _ HW1.out).mono ?_
    rintro _ w2 ⟨rfl, hb2⟩
    clear x0 x1 x2 x3 x4 x5 x6 x7
    go_wp2
    go_ret
    exact ⟨rfl, bel2 HW1.out hb2⟩
end Go.Proofs.YtkhpgejammgolaaGreat
