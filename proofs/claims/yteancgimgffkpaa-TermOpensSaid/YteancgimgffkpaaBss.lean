/- Rows of rows of bytes. -/
import Derived.Test.YteancgimgffkpaaLaws
namespace Go.Proofs.Yteancgimgffkpaa
open Go.RowKit
set_option linter.unusedVariables false

theorem rowinfo : (Try.prog.info? 31).map (fun i => (i.zero, i.size, i.bytes)) = some (some (.slice none 0 0), 1, 24) := by kernel_rfl

/-- the slice value v reads as a row of rows of bytes -/
def Bss (w : World) (v : Value) (ls : List (List UInt8)) : Prop :=
  ∃ xs, Rd w v xs ∧ xs.length = ls.length ∧ ∀ (k : Nat) (x : Value) (l : List UInt8), xs[k]? = some x → ls[k]? = some l → Bs w x l

theorem Bss.nil (w : World) : Bss w (.slice none 0 0) [] := ⟨[], Rd.nil w, rfl, fun k x l h => by simp at h⟩
theorem Bss.below {w w' : World} {v : Value} {ls : List (List UInt8)} {B : Nat} (h : Bss w v ls) (hb : Below B w w') (hB : w.heap.size ≤ B) : Bss w' v ls := by
  obtain ⟨xs, h1, h2, h3⟩ := h
  exact ⟨xs, h1.below hb hB, h2, fun k x l hx hl => (h3 k x l hx hl).below hb hB⟩

theorem Bss.open {w : World} {v : Value} {ls : List (List UInt8)} (h : Bss w v ls) : ∃ A c, v = .slice A ls.length c ∧ ls.length ≤ c ∧ c ≤ maxLen ∧
    (∀ k (hk : k < ls.length), ∃ ad x, A = some ad ∧ ad.block < w.heap.size ∧ w.cell? (ad.add k) = some x ∧ Bs w x ls[k]) := by
  obtain ⟨xs, ⟨A, c, hv, hc, hm, hn, hx⟩, hlen, hin⟩ := h
  rw [hlen] at hv hc
  refine ⟨A, c, hv, hc, hm, fun k hk => ?_⟩
  obtain ⟨ad, ha, hb, hr⟩ := hx (by rintro rfl; simp at hlen; omega)
  have hkx : k < xs.length := by omega
  exact ⟨ad, xs[k], ha, hb, hr k _ (List.getElem?_eq_getElem hkx), hin k _ _ (List.getElem?_eq_getElem hkx) (List.getElem?_eq_getElem hk)⟩

theorem Bss.len {w : World} {v : Value} {ls : List (List UInt8)} (h : Bss w v ls) : ls.length ≤ maxLen := by
  obtain ⟨A, c, _, h1, h2, _⟩ := h.open
  omega

/-- a row of rows that grows: its own memory, in which none of its rows lies -/
def Grows (B : Nat) (w : World) (v : Value) (ls : List (List UInt8)) : Prop :=
  ∃ xs, w.ownsRow B 31 1 v ls.length xs ∧ ∀ (k : Nat) (x : Value) (l : List UInt8), xs[k]? = some x → ls[k]? = some l → Bs w x l ∧ (l ≠ [] → ∀ g, x.ownBlock = some g → v.ownBlock ≠ some g)

theorem Grows.start (B : Nat) (w : World) : Grows B w (.slice none 0 0) [] := ⟨[], World.ownsRow_nil w B _ 1, fun k x l h => by simp at h⟩
theorem Grows.bss {B : Nat} {w : World} {v : Value} {ls : List (List UInt8)} (h : Grows B w v ls) : Bss w v ls := by
  obtain ⟨xs, h1, h2⟩ := h
  exact ⟨xs, Rd.of_own h1, by have := h1.1; simpa using this, fun k x l hx hl => (h2 k x l hx hl).1⟩
theorem below_grown {w w' : World} (h : Below w.heap.size w w') (row : Option Nat) : w.grownBy w' row := ⟨h.os, h.tape, h.output, h.size, fun k hk _ => h.block k hk⟩
theorem own_below {B n : Nat} {e : TypeId} {w w' : World} {v : Value} {xs : List Value} (h : w.ownsRow B e 1 v n xs) (hb : Below w.heap.size w w') : w'.ownsRow B e 1 v n xs :=
  h.kept (below_grown hb none) (by cases h : v.ownBlock <;> simp)
theorem own_off {B n : Nat} {e : TypeId} {w : World} {v y : Value} {xs : List Value} (h : w.ownsRow B e 1 v n xs) (hn : New w.heap.size y) (g : Nat) (hg : y.ownBlock = some g) : v.ownBlock ≠ some g := by
  intro e
  have := (h.lt g e).2
  have := hn g hg
  omega
theorem Grows.below {B : Nat} {w w' : World} {v : Value} {ls : List (List UInt8)} (h : Grows B w v ls) (hb : Below w.heap.size w w') : Grows B w' v ls := by
  obtain ⟨xs, h1, h2⟩ := h
  refine ⟨xs, h1.kept (below_grown hb none) ?_, fun k x l hx hl => ⟨(h2 k x l hx hl).1.below hb (Nat.le_refl _), (h2 k x l hx hl).2⟩⟩
  cases h : v.ownBlock <;> simp

/-- what is read is as it was where one block has turned in which it does not lie -/
theorem Bs.grown {w w' : World} {v : Value} {l : List UInt8} {row : Option Nat} (h : Bs w v l) (hg : w.grownBy w' row) (hne : l ≠ [] → ∀ g, v.ownBlock = some g → row ≠ some g) : Bs w' v l := by
  obtain ⟨A, c, hv, hc, hm, hn, hx⟩ := h
  refine ⟨A, c, hv, hc, hm, hn, fun he => ?_⟩
  obtain ⟨ad, ha, hl, hr⟩ := hx he
  subst ha hv
  have hn' := hne (by rintro rfl; simp at he) ad.block rfl
  exact ⟨ad, rfl, Nat.lt_of_lt_of_le hl hg.size, fun j u hj => (World.cell?_of_block (hg.block _ (by rw [block_add]; exact hl) (by rw [block_add]; exact fun e => hn' e.symm))).trans (hr j u hj)⟩
theorem Bs.lt {w : World} {v : Value} {l : List UInt8} (h : Bs w v l) (hne : l ≠ []) (g : Nat) (hg : v.ownBlock = some g) : g < w.heap.size := by
  obtain ⟨A, c, hv, hc, hm, hn, hx⟩ := h
  obtain ⟨ad, ha, hl, hr⟩ := hx (by simpa using hne)
  subst ha hv
  simp [Value.ownBlock] at hg
  omega

/-- one row more -/
theorem Grows.push {B : Nat} {W w2 : World} {v v2 y : Value} {ls : List (List UInt8)} {l : List UInt8} {xs : List Value} {n : Nat}
    (hin : ∀ (k : Nat) (x : Value) (l : List UInt8), xs[k]? = some x → ls[k]? = some l → Bs W x l ∧ (l ≠ [] → ∀ g, x.ownBlock = some g → v.ownBlock ≠ some g))
    (hlen : xs.length = ls.length) (hy : Bs W y l) (hyo : l ≠ [] → ∀ g, y.ownBlock = some g → v.ownBlock ≠ some g)
    (hown : w2.ownsRow B 31 1 v2 n (xs ++ [y])) (hg : W.grownBy w2 v.ownBlock) (ho : v2.ownBlock = v.ownBlock ∨ v2.ownBlock = some W.heap.size) : Grows B w2 v2 (ls ++ [l]) := by
  have hn : n = (ls ++ [l]).length := by have := hown.1; simp at this; simp; omega
  subst hn
  refine ⟨xs ++ [y], hown, fun k x m hx hm => ?_⟩
  have hall : Bs W x m ∧ (m ≠ [] → ∀ g, x.ownBlock = some g → v.ownBlock ≠ some g) := by
    by_cases hk : k < xs.length
    · rw [List.getElem?_append_left hk] at hx
      rw [List.getElem?_append_left (by omega)] at hm
      exact hin k x m hx hm
    · have hk2 : k < (xs ++ [y]).length := (List.getElem?_eq_some_iff.1 hx).1
      simp at hk2
      obtain rfl : k = xs.length := by omega
      simp at hx
      rw [hlen] at hm
      simp at hm
      subst hx hm
      exact ⟨hy, hyo⟩
  refine ⟨hall.1.grown hg hall.2, fun hne g hgx => ?_⟩
  rcases ho with ho | ho
  · rw [ho]; exact hall.2 hne g hgx
  · have := hall.1.lt hne g hgx
    rw [ho]
    intro e
    injection e with e
    omega

/-- few rows of few bytes -/
def fewL (ls : List (List UInt8)) : Bool := decide (ls.length ≤ 100) && ls.all fun l => decide (l.length ≤ 2000)
theorem fewL_iff {ls : List (List UInt8)} : fewL ls = true ↔ ls.length ≤ 100 ∧ ∀ l ∈ ls, l.length ≤ 2000 := by simp [fewL]

set_option maxHeartbeats 400000 in
theorem few2_any (v : Value) (ls : List (List UInt8)) (w : World) (hv : Bss w v ls) :
    Calls Try.prog 9 #[v] w fun e w' => e = .returned (.bool (fewL ls)) ∧ w = w' := by
  obtain ⟨A, c, rfl, hc, hm, hx⟩ := hv.open
  clear hv
  by_cases h100 : 100 < ls.length
  · have hf : fewL ls = false := by rw [← Bool.not_eq_true, fewL_iff]; omega
    have HX := Lib.hid hx
    clear hx
    rw [hf]
    go_enter Try.func9, Try.ntmps9
    go_wp2
    go_ret
    exact ⟨rfl, rfl⟩
  · have HX := Lib.hid hx
    clear hx
    go_enter Try.func9, Try.ntmps9
    go_wp2
    go_loop [3] (fun i => ∃ k : Nat, k ≤ ls.length ∧ (ls.take k).all (fun l => decide (l.length ≤ 2000)) = true ∧ i = .int .i64 k) (fun i => ls.length - (intOf i).toNat)
    case atStart => exact ⟨0, Nat.zero_le _, rfl, rfl⟩
    case round =>
      obtain ⟨k, hk, hall, rfl⟩ := hrel
      by_cases hlt : k < ls.length
      · obtain ⟨ad, x, rfl, -, h2, hbx⟩ := HX.out k hlt
        obtain ⟨A2, c2, rfl, -, -, -, -⟩ := hbx.open
        clear hbx
        have HA := Lib.hid hall
        clear hall
        by_cases hb : ls[k].length ≤ 2000
        · have hbt : (ls.take (k + 1)).all (fun l => decide (l.length ≤ 2000)) = true := by
            rw [List.take_succ_eq_append_getElem hlt, List.all_append, HA.out]; simpa using hb
          have HB := Lib.hid hbt
          clear hbt
          go_wp2
          go_round
          case rel => exact ⟨k + 1, by omega, HB.out, by go_num⟩
          case measure => simp [intOf]; omega
        · have hf : fewL ls = false := by rw [← Bool.not_eq_true, fewL_iff]; rintro ⟨-, h⟩; exact hb (h _ (List.getElem_mem hlt))
          have HF := Lib.hid hf
          clear hf
          go_wp2
          go_ret
          exact ⟨ret_bool HF.out.symm, rfl⟩
      · obtain rfl : k = ls.length := by omega
        have hf : fewL ls = true := by rw [List.take_length] at hall; simp [fewL, hall]; omega
        have HF := Lib.hid hf
        clear hall HX hf
        go_wp2
        go_ret
        exact ⟨ret_bool HF.out.symm, rfl⟩

set_option maxHeartbeats 1000000 in
theorem twin_any (v : Value) (ls : List (List UInt8)) (w : World) (hv : Bss w v ls) (h1 : ls.length ≤ 1000000) (h2 : ∀ l ∈ ls, l.length ≤ 4000000000) :
    Calls Try.prog 10 #[v] w fun e w' => ∃ v', e = .returned v' ∧ Bss w' v' ls ∧ Below w.heap.size w w' := by
  obtain ⟨i0, hi, hz0, hz1, hz2⟩ := info_parts u8info
  obtain ⟨i1, hj, hy0, hy1, hy2⟩ := info_parts rowinfo
  have HV := Lib.hid hv
  have H2 := Lib.hid h2
  obtain ⟨A, c, rfl, hc, hm, -⟩ := hv.open
  clear hv h2
  go_enter Try.func10, Try.ntmps10
  go_wp2
  go_loopw [3, 4] (fun v i wr => ∃ k : Nat, k ≤ ls.length ∧ i = .int .i64 k ∧ Grows w.heap.size wr v (ls.take k) ∧ Below w.heap.size w wr) (fun _ i _ => ls.length - (intOf i).toNat)
  case atStart => exact ⟨0, Nat.zero_le _, rfl, Grows.start _ _, Below.refl _ _⟩
  case round =>
    obtain ⟨k, hk, rfl, hgr, hbel⟩ := hrel
    by_cases hlt : k < ls.length
    · have hl2 := H2.out _ (List.getElem_mem hlt)
      have hts : ls.take (k + 1) = ls.take k ++ [ls[k]] := List.take_succ_eq_append_getElem hlt
      have HT := Lib.hid hts
      obtain ⟨A', c', e, -, -, hx⟩ := (HV.out.below hbel (Nat.le_refl _)).open
      injection e with e e2 e3
      subst e
      clear e2 e3
      obtain ⟨ad, x, rfl, -, hcell, hbx⟩ := hx k hlt
      have hcellA : (wr.alloc (.cells #[] 5)).cell? (ad.add k) = some x := cell_later ((Below.refl wr.heap.size wr).alloc (Nat.le_refl _) _) hcell
      obtain ⟨xs, hown, hin⟩ := hgr
      have hxl : xs.length = (ls.take k).length := by have := hown.1; simpa using this
      have HIN := Lib.hid hin
      have HXL := Lib.hid hxl
      have hkl : (ls.take k).length = k := by rw [List.length_take]; omega
      rw [hkl] at hown
      have HKL := Lib.hid hkl
      clear hts hin hx hxl hkl
      go_wp2_with (first
        | (at_builtin; refine wpList_append_rdo _ rfl (.tmp 12) (.tmp 16) 31 rfl wr.heap.size 5 i0 (.int .u8 0) 1 Try.underlying31 hi hz0 hz1 hz2 rfl _ _ _ rfl (own_empty _ _ _ _ (by simp) (by simp)) _ _ rfl (hbx.below ((Below.refl wr.heap.size wr).alloc (Nat.le_refl _) _) (Nat.le_refl _)) (bc_one _) (by simp; unfold maxLen; omega) (by simp; omega) (by simp) ?_; intro v1 w1 hown1 hg1 ho1; have hb1 : Below wr.heap.size wr w1 := ((Below.refl wr.heap.size wr).alloc (Nat.le_refl _) _).grown hg1 (by simp) (by intro k h; injection h with h; simp only at h; omega); have hnw1 := New.of_own hown1; have hbs1 : Bs w1 v1 ls[k] := Rd.of_own (by simpa using hown1); obtain ⟨A1, c1, rfl, -, -, -, -⟩ := hbs1.open; have hownB := (own_below hown hb1).alloc (.cells #[.slice A1 ls[k].length c1] 31); clear hg1 ho1 hown1)
        | (at_builtin; refine wpList_append_rdo _ rfl (.tmp 11) (.tmp 18) 22 rfl w.heap.size 31 i1 (.slice none 0 0) 24 Try.underlying22 hj hy0 hy1 hy2 rfl _ _ _ rfl hownB _ _ rfl (Rd.one _ _ _) (by intro u hu; simp at hu; subst hu; rfl) (by simp; unfold maxLen; omega) (by simp; omega) (by have := hbel.size; have := hb1.size; simp; omega) ?_; intro v2 w2 hown2 hg2 ho2))
      have hG := Grows.push (l := ls[k]) (B := w.heap.size) (v := u3) (fun j y m hy hm => ⟨(HIN.out j y m hy hm).1.below (hb1.trans ((Below.refl wr.heap.size w1).alloc hb1.size _)) (Nat.le_refl _), (HIN.out j y m hy hm).2⟩) HXL.out (Rd.below hbs1 ((Below.refl w1.heap.size w1).alloc (Nat.le_refl _) _) (Nat.le_refl _)) (fun _ g hg => own_off hown hnw1 g hg) hown2 hg2 ho2
      rw [← HT.out] at hG
      have hB2 := (hbel.trans ((hb1.mono hbel.size).trans ((Below.refl w.heap.size w1).alloc (by have := hbel.size; have := hb1.size; omega) _))).grown hg2 (by have := hbel.size; have := hb1.size; simp; omega) (fun g hg => (hownB.lt g hg).1)
      clear hg2 ho2 hown2 hownB hbs1 hnw1 hb1
      go_wp2
      go_roundw
      case rel => exact ⟨k + 1, by omega, by go_num, hG, hB2⟩
      case measure => simp [intOf]; omega
    · obtain rfl : k = ls.length := by omega
      rw [List.take_length] at hgr
      have HG := Lib.hid hgr
      clear hgr
      go_wp2
      go_ret
      exact ⟨_, rfl, HG.out.bss, hbel⟩
end Go.Proofs.Yteancgimgffkpaa
