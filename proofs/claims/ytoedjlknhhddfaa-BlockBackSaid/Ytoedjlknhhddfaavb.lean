/- vb: BMem Concat (made by shake.py). -/
import Derived.Lib.AppendZeros
import Derived.Test.Ytoedjlknhhddfaava
namespace Go.Proofs.Ytoedjlknhhddfaa
open Go.RowKit Go.ChangeShapes Go.WideShapes Go.ChangeAt
set_option linter.unusedVariables false
set_option linter.unusedSimpArgs false
set_option maxRecDepth 20000

def EnvP (w : World) (p : Addr) (e : Int × List UInt8) : Prop := w.cell? p = some (.int .i64 e.1) ∧ ∃ bv, w.cell? ⟨p.block, p.off + 1, none⟩ = some bv ∧ Bs w bv e.2
def ResP (w : World) (p : Addr) (r : Int × Int) : Prop := w.cell? p = some (.int .i64 r.1) ∧ w.cell? ⟨p.block, p.off + 1, none⟩ = some (.int .i64 r.2)
abbrev EnvK (w : World) : Option Addr → Nat → List (Int × List UInt8) → Prop := RowM w 2 EnvP
abbrev ResK (w : World) : Option Addr → Nat → List (Int × Int) → Prop := RowM w 2 ResP
theorem EnvP.below {w w' : World} {p : Addr} {e : Int × List UInt8} (h : EnvP w p e) (hb : Below w.heap.size w w') (hl : p.block < w.heap.size) : EnvP w' p e := by
  obtain ⟨h1, bv, h2, h3⟩ := h
  exact ⟨cellM hb hl h1, bv, cellM (p := ⟨p.block, p.off + 1, none⟩) hb hl h2, h3.below hb (Nat.le_refl _)⟩
theorem EnvK.below {w w' : World} {A : Option Addr} {c : Nat} {l : List (Int × List UInt8)} (h : EnvK w A c l) (hb : Below w.heap.size w w') : EnvK w' A c l := RowM.below (fun p x hl h => EnvP.below h hb hl) h hb.size
theorem ResK.below {w w' : World} {A : Option Addr} {c : Nat} {l : List (Int × Int)} (h : ResK w A c l) (hb : Below w.heap.size w w') : ResK w' A c l := RowM.below (fun p x hl h => ⟨cellM hb hl h.1, cellM (p := ⟨p.block, p.off + 1, none⟩) hb hl h.2⟩) h hb.size
abbrev agB (b : Blk) (A : Option Addr) (c : Nat) (D : Option Addr) (d : Nat) : Value := .agg #[.int .i64 b.h, .string (strB b.prev), .slice A b.reqs.length c, .slice D b.ress.length d]
structure BlkK (w : World) (b : Blk) (A : Option Addr) (c : Nat) (D : Option Addr) (d : Nat) : Prop where
  q : EnvK w A c b.reqs
  r : ResK w D d b.ress
theorem BlkK.below {w w' : World} {b : Blk} {A : Option Addr} {c : Nat} {D : Option Addr} {d : Nat} (h : BlkK w b A c D d) (hb : Below w.heap.size w w') : BlkK w' b A c D d := ⟨h.q.below hb, h.r.below hb⟩
section
variable {H : Type} {enc : TypeId × Value → H} {W : World} {sp : Nat → Bool} {hd : Bool} {base : Nat} {v : Value} {d : DataW H} {ps : List MemPlace}
theorem part_env (n : Nat) (cs : List Value) (x : DataW H × List MemPlace) (p : Addr) (ht : DataW.trod enc Try.prog W 0 sp hd n 32 cs = some x) (hlen : cs.length = 2) (hat : ∀ i, i < 2 → W.cell? (p.add i) = cs[i]?) : ∃ z, EnvP W p z ∧ in64B z.1 := by
  obtain ⟨ys, m, -, -, -, hys, hfs⟩ := DataW.trod_struct Try.underlying32 ht
  match cs, hlen with
  | [c0, c1], _ =>
    match ys, hys with
    | [y0, y1], _ =>
      have k1 : Try.prog.cellsOf 3 = 1 := by kernel_rfl
      have k2 : Try.prog.cellsOf 29 = 1 := by kernel_rfl
      have g0 := hfs 0 _ rfl
      have g1 := hfs 1 _ rfl
      simp [k1, k2] at g0 g1
      obtain ⟨z0, e0, -, w0⟩ := DataW.trod_int Try.underlying3 g0
      obtain ⟨l, hb⟩ := open_bytes g1
      simp at e0
      subst e0
      have e0 := hat 0 (by omega)
      have e1 := hat 1 (by omega)
      exact ⟨(z0, l), ⟨by simpa [Addr.add_zero'] using e0, c1, by simpa [Addr.add_succ'] using e1, hb⟩, inM_of w0⟩
theorem part_res (n : Nat) (cs : List Value) (x : DataW H × List MemPlace) (p : Addr) (ht : DataW.trod enc Try.prog W 0 sp hd n 35 cs = some x) (hlen : cs.length = 2) (hat : ∀ i, i < 2 → W.cell? (p.add i) = cs[i]?) : ∃ z, ResP W p z ∧ (in64B z.1 ∧ in64B z.2) := by
  obtain ⟨ys, m, -, -, -, hys, hfs⟩ := DataW.trod_struct Try.underlying35 ht
  match cs, hlen with
  | [c0, c1], _ =>
    match ys, hys with
    | [y0, y1], _ =>
      have k1 : Try.prog.cellsOf 3 = 1 := by kernel_rfl
      have k2 : Try.prog.cellsOf 33 = 1 := by kernel_rfl
      have g0 := hfs 0 _ rfl
      have g1 := hfs 1 _ rfl
      simp [k1, k2] at g0 g1
      obtain ⟨z0, e0, -, w0⟩ := DataW.trod_int Try.underlying33 g0
      obtain ⟨z1, e1, -, w1⟩ := DataW.trod_int Try.underlying3 g1
      simp at e0 e1
      subst e0 e1
      have e0 := hat 0 (by omega)
      have e1 := hat 1 (by omega)
      exact ⟨(z0, z1), ⟨by simpa [Addr.add_zero'] using e0, by simpa [Addr.add_succ'] using e1⟩, inM_of w0, inM_of w1⟩
theorem open_block (hv : Value.okWide Try.prog W .any base 26 v) (h : DataW.Trod enc Try.prog W 0 sp hd 26 v d ps) : ∃ b A c D e, v = agB b A c D e ∧ BlkK W b A c D e ∧ OkB b := by
  obtain ⟨cs, rfl, hsz⟩ := okWide_struct Try.underlying26 hv
  obtain ⟨fuel, hf⟩ := h
  have k0 : Try.prog.cellsOf 26 = 4 := by kernel_rfl
  rw [k0] at hsz
  obtain ⟨ys, m, -, -, -, hys, hfs⟩ := DataW.trod_struct Try.underlying26 hf
  obtain ⟨l⟩ := cs
  match l, hsz with
  | [c0, c1, c2, c3], _ =>
    match ys, hys with
    | [y0, y1, y2, y3], _ =>
      have k1 : Try.prog.cellsOf 3 = 1 := by kernel_rfl
      have k2 : Try.prog.cellsOf 22 = 1 := by kernel_rfl
      have k3 : Try.prog.cellsOf 23 = 1 := by kernel_rfl
      have k4 : Try.prog.cellsOf 24 = 1 := by kernel_rfl
      have g0 := hfs 0 _ rfl
      have g1 := hfs 1 _ rfl
      have g2 := hfs 2 _ rfl
      have g3 := hfs 3 _ rfl
      simp [k1, k2, k3, k4, Value.cells] at g0 g1 g2 g3
      obtain ⟨z0, e0, -, w0⟩ := DataW.trod_int Try.underlying3 g0
      obtain ⟨z1, e1, -⟩ := DataW.trod_string Try.underlying22 g1
      obtain ⟨ql, QA, qc, e2, hq, hq2⟩ := row_ofM ⟨(0, [])⟩ EnvP (fun z => in64B z.1) Try.underlying23 (by kernel_rfl) (fun p x h => World.block_lt_of_cell? _ _ h.1) part_env g2
      obtain ⟨rl, RA, rc, e3, hr, hr2⟩ := row_ofM ⟨(0, 0)⟩ ResP (fun z => in64B z.1 ∧ in64B z.2) Try.underlying24 (by kernel_rfl) (fun p x h => World.block_lt_of_cell? _ _ h.1) part_res g3
      simp at e0 e1
      subst e0 e1 e2 e3
      exact ⟨⟨z0, z1.data.toList, ql, rl⟩, QA, qc, RA, rc, by rw [agB, ← strB_of z1], ⟨hq, hr⟩, ⟨inM_of w0, hq2, hr2⟩⟩
end
end Go.Proofs.Ytoedjlknhhddfaa

namespace Go.Proofs.Ytoedjlknhhddfaa
open Go.RowKit
set_option linter.unusedVariables false
set_option linter.unusedSimpArgs false
set_option maxRecDepth 20000

theorem Grow_nil (n : Nat) (w : World) (hn : n ≤ 1000000000) : Calls Try.prog 79 #[.slice none 0 0, .int .i64 n] w (fun e w' => ∃ v, e = .returned v ∧ w'.ownsRow w.heap.size 5 1 v 0 [] ∧ Below w.heap.size w w') := by
  obtain ⟨i0, hi, hz0, hz1, hz2⟩ := info_parts u8info
  have hw0 : IntKind.i64.wrap ((n : Int) - (0 - 0)) = (n : Int) := by rw [IntKind.wrap_i64]; omega
  have hneg : ¬ (n : Int) < 0 := by omega
  by_cases h0 : n = 0
  · subst h0
    go_enter Try.func79, Try.ntmps79
    go_wp2
    go_ret
    exact ⟨_, rfl, World.ownsRow_nil _ _ _ _, Below.refl _ _⟩
  · have hpos : (0 : Int) < (n : Int) := by omega
    have hrun := fun ty => Lib.run_append_nil_zeros (P := Try.prog) w 29 3 ty 5 i0 (.int .u8 0) .i64 .i64 Try.underlying29 Try.underlying3 hi hz0 n (by omega) (by rw [hz1]; decide) (by omega) (by rw [hz2]; omega)
    have hcap := grownCap_ge w n 0 5
    have hcm := grownCap_le_maxLen w n 0 5 (by unfold maxLen; omega)
    have HRUN := Lib.hid hrun
    clear hrun
    generalize hgc : grownCap w n 0 5 = gc at *
    have hown : (w.drew.alloc (.cells (Builtin.zeroCells (Value.int .u8 0).cells n ++ Builtin.zeroCells (Value.int .u8 0).cells (gc - n)) 5)).ownsRow w.heap.size 5 1 (.slice (some ⟨w.heap.size, 0, none⟩) 0 gc) 0 [] := by
      refine ⟨rfl, .inr ⟨w.heap.size, gc, _, rfl, Nat.le_refl _, heap_alloc_new w.drew _, Nat.zero_le _, hcm, ?_, by simp⟩⟩
      simp [Builtin.zeroCells, Value.cells]
      omega
    have HOWN := Lib.hid hown
    have HBB := Lib.hid ((Below.refl w.heap.size w).drew.alloc (Nat.le_refl _) (.cells (Builtin.zeroCells (Value.int .u8 0).cells n ++ Builtin.zeroCells (Value.int .u8 0).cells (gc - n)) 5))
    clear hown
    go_enter Try.func79, Try.ntmps79
    go_wp2_with (at_builtin; refine Lib.wpList_append_run _ rfl _ _ _ _ rfl _ _ rfl rfl _ _ (HRUN.out _) ?_)
    go_ret
    exact ⟨_, rfl, HOWN.out, HBB.out⟩
theorem flat_take (ls : List (List UInt8)) (k : Nat) (hk : k < ls.length) : (ls.take (k + 1)).flatten = (ls.take k).flatten ++ ls[k] := by
  rw [List.take_succ_eq_append_getElem hk, List.flatten_append]
  simp
theorem flat_take_le (ls : List (List UInt8)) (k : Nat) : (ls.take k).flatten.length ≤ ls.flatten.length := by
  have h : ls.flatten = (ls.take k).flatten ++ (ls.drop k).flatten := by rw [← List.flatten_append, List.take_append_drop]
  rw [h, List.length_append]; omega
set_option maxHeartbeats 2000000 in
theorem Concat_any (v : Value) (ls : List (List UInt8)) (w : World) (hv : Bss w v ls) (hs : ls.flatten.length ≤ 1000000000) : Calls Try.prog 52 #[v] w (Puts w ls.flatten) := by
  obtain ⟨i0, hi, hz0, hz1, hz2⟩ := info_parts u8info
  obtain ⟨A, c, rfl, hc, hm, hx⟩ := hv.open
  unfold maxLen at hm
  have hlen : ls.length ≤ 9223372036854775807 := by omega
  have HX := Lib.hid hx
  have hP : ∃ P : Nat → List UInt8, P 0 = [] ∧ P ls.length = ls.flatten ∧ (∀ (k : Nat) (hk : k < ls.length), P (k + 1) = P k ++ ls[k]) ∧ ∀ k, (P k).length ≤ ls.flatten.length :=
    ⟨fun k => (ls.take k).flatten, rfl, by simp, flat_take ls, flat_take_le ls⟩
  obtain ⟨P, p0, p1, p2, p3⟩ := hP
  have HG := Lib.hid (Grow_nil ls.flatten.length w hs)
  generalize ls.flatten = fl at *
  have HS := Lib.hid hs
  have HT := Lib.hid p2
  have HTL := Lib.hid p3
  have P0 := Lib.hid p0
  have P1 := Lib.hid p1
  clear hx hv hs hc hm p0 p1 p2 p3
  go_enter Try.func52, Try.ntmps52
  go_wp2
  go_loop [3, 11] (fun s i => ∃ k : Nat, k ≤ ls.length ∧ i = .int .i64 k ∧ s = .int .i64 ((P k).length : Nat)) (fun _ i => ls.length - (intOf i).toNat)
  case atStart => exact ⟨0, Nat.zero_le _, rfl, by rw [P0.out]; rfl⟩
  case round =>
    obtain ⟨k, hk, rfl, rfl⟩ := hrel
    by_cases hlt : k < ls.length
    · have hltI : (k : Int) < (ls.length : Int) := by omega
      obtain ⟨ad, x, rfl, hbl, hcell, hbx⟩ := HX.out k hlt
      obtain ⟨A2, c2, rfl, -, -, -, -⟩ := hbx.open
      clear hbx
      have ht := HT.out k hlt
      have hle := HTL.out (k + 1)
      have hl2 : (P (k + 1)).length = (P k).length + ls[k].length := by rw [ht, List.length_append]
      have hs2 := HS.out
      have hw : IntKind.i64.wrap ((((P k).length : Nat) : Int) + ((ls[k].length : Nat) : Int)) = (((P (k + 1)).length : Nat) : Int) := by
        rw [IntKind.wrap_i64]; omega
      have hnn : ¬ (((P (k + 1)).length : Nat) : Int) < 0 := by omega
      clear ht hle hs2 hl2
      generalize ls[k].length = m at *
      generalize hqq : (P (k + 1)).length = q at *
      generalize hpk : (P k).length = pk at *
      go_wp2
      go_round
      case rel => exact ⟨k + 1, by omega, by go_num, by rw [hqq]⟩
      case measure => simp [intOf]; omega
    · obtain rfl : k = ls.length := by omega
      have hltI : ¬ (ls.length : Int) < (ls.length : Int) := by omega
      rw [P1.out]
      go_wp2_with fail
      refine HG.out.mono ?_
      rintro _ w1 ⟨v1, rfl, hown1, hb1⟩
      have HO1 := Lib.hid hown1
      have HB1 := Lib.hid hb1
      clear hown1 hb1 HG
      go_wp2
      go_loopw [6, 27] (fun b i wr => ∃ k : Nat, k ≤ ls.length ∧ i = .int .i64 k ∧ wr.ownsRow w.heap.size 5 1 b (P k).length ((P k).map bc) ∧ Below w.heap.size w wr) (fun _ i _ => ls.length - (intOf i).toNat)
      case atStart => exact ⟨0, Nat.zero_le _, rfl, by rw [P0.out]; exact HO1.out, HB1.out⟩
      case round =>
        obtain ⟨k, hk, rfl, hown, hb⟩ := hrel
        have HO := Lib.hid hown
        have HB := Lib.hid hb
        clear hown hb HO1 HB1
        by_cases hlt : k < ls.length
        · have hltI : (k : Int) < (ls.length : Int) := by omega
          obtain ⟨ad, x, rfl, hbl, hcell, hbx⟩ := HX.out k hlt
          have hcell2 := (HB.out.cell (p := ad.add k) (by rw [block_add]; exact hbl)).trans hcell
          have HV := Lib.hid (Rd.below hbx HB.out (Nat.le_refl _))
          have ht := HT.out k hlt
          have HTT := Lib.hid ht
          have hle := HTL.out (k + 1)
          rw [ht, List.length_append] at hle
          have hs2 := HS.out
          have hq1 : (P k).length + (ls[k].map bc).length ≤ maxLen := by rw [List.length_map]; unfold maxLen; omega
          have hq2 : ((P k).length + (ls[k].map bc).length) * 1 ≤ 140737488355328 := by rw [List.length_map]; omega
          have HQ := Lib.hid (And.intro hq1 hq2)
          clear ht hle hs2 hbx hcell hq1 hq2
          go_wp2_with (at_builtin; refine wpList_append_rd _ rfl _ _ 29 rfl w.heap.size 5 i0 (.int .u8 0) 1 Try.underlying29 hi hz0 hz1 hz2 rfl _ _ _ rfl HO.out _ _ rfl HV.out (bc_one _) HQ.out.1 HQ.out.2 HB.out.size ?_; intro v5 w5 hown5 hgr5; have HB5 := Lib.hid (HB.out.grown hgr5 HB.out.size (fun k hk => (HO.out.lt k hk).1)); rw [← List.map_append, List.length_map, ← List.length_append, ← HTT.out] at hown5)
          go_roundw
          case rel => exact ⟨k + 1, by omega, by go_num, hown5, HB5.out⟩
          case measure => simp [intOf]; omega
        · obtain rfl : k = ls.length := by omega
          have hltI : ¬ (ls.length : Int) < (ls.length : Int) := by omega
          rw [P1.out] at HO
          go_wp2
          go_ret
          exact ⟨_, rfl, HO.out, HB.out⟩
theorem own_bs {w : World} {B : Nat} {v : Value} {n : Nat} {l : List UInt8} (h : w.ownsRow B 5 1 v n (l.map bc)) : Bs w v l := Rd.of_own h
def AllBs (W : World) : List Value → List (List UInt8) → Prop
  | [], [] => True
  | x :: vs, l :: ls => Bs W x l ∧ AllBs W vs ls
  | _, _ => False
theorem AllBs.len {W : World} : ∀ {vs : List Value} {ls : List (List UInt8)}, AllBs W vs ls → vs.length = ls.length
  | [], [], _ => rfl
  | x :: vs, l :: ls, h => by rw [List.length_cons, List.length_cons, AllBs.len h.2]
theorem AllBs.at {W : World} : ∀ {vs : List Value} {ls : List (List UInt8)}, AllBs W vs ls → ∀ (k : Nat) (x : Value) (l : List UInt8), vs[k]? = some x → ls[k]? = some l → Bs W x l
  | x :: vs, l :: ls, h, 0, y, m, h1, h2 => by
    injection h1 with h1
    injection h2 with h2
    subst h1 h2
    exact h.1
  | x :: vs, l :: ls, h, k + 1, y, m, h1, h2 => AllBs.at h.2 k y m h1 h2

end Go.Proofs.Ytoedjlknhhddfaa
