/- xb: EHold EChk EChk2 EFld ETell ETell2 ETell4 ETell5 (made by shake.py). -/
import Derived.Deep.OwnRows
import Derived.WalkLawsBesides
import Derived.Defers
import Derived.Recover
import Derived.StillTailTactics
import Derived.Deep.RegionHeld3
import Derived.Test.YtkahhoefbphllaaGreatxa
/- Layer 5: is an expression small, by the program. -/
namespace Go.Proofs.YtkahhoefbphllaaGreat
open Go.RowKit
set_option linter.unusedVariables false
set_option linter.unusedSimpArgs false
set_option maxRecDepth 20000

theorem leftL_drop (f : Ex → Int → Int) (ks : List Ex) (k : Nat) (hk : k < ks.length) (n : Int) (hn : 0 ≤ n) : leftL f (ks.drop k) n = leftL f (ks.drop (k + 1)) (f ks[k] n) := by
  rw [List.drop_eq_getElem_cons hk, leftL, if_neg (by omega)]

theorem leftF_le : ∀ (d : Nat) (e : Ex) (n : Int), leftF d e n ≤ n ∨ leftF d e n < 0
  | 0, e, n => .inr (show (-1 : Int) < 0 by decide)
  | d + 1, e, n => by
    by_cases h : 0 ≤ leftF (d + 1) e n
    · have := (leftF_spec _ _ _ h).2; omega
    · omega
/-- the count of parts at block g -/
def Sz (w : World) (g : Nat) (n : Int) : Prop := w.cell? ⟨g, 0, none⟩ = some (.int .i64 n) ∧ w.frozen? ⟨g, 0, none⟩ = false ∧ g < w.heap.size
theorem Sz.below {w w' : World} {g : Nat} {n : Int} {B : Nat} (h : Sz w g n) (hb : Below B w w') (hl : g < B) : Sz w' g n :=
  ⟨(hb.cell (p := ⟨g, 0, none⟩) hl).trans h.1, (World.frozen?_of_block (hb.block g hl)).trans h.2.1, Nat.lt_of_lt_of_le h.2.2 hb.size⟩

theorem Sz.set {w : World} {g : Nat} {n : Int} (h : Sz w g n) (m : Int) : Sz (w.setCell ⟨g, 0, none⟩ (.int .i64 m)) g m :=
  ⟨World.cell?_setCell_same w _ _ h.1, (World.frozen?_setCell _ _ _ _).trans h.2.1, by simpa [World.setCell] using h.2.2⟩
theorem Sz.only {w w' : World} {g h : Nat} {n : Int} (hs : Sz w g n) (ho : Only h w w') (hne : g ≠ h) : Sz w' g n := by
  have hb := ho.block g hs.2.2 (by intro e; injection e with e; exact hne e)
  exact ⟨(World.cell?_of_block (a := ⟨g, 0, none⟩) hb).trans hs.1, (World.frozen?_of_block (a := ⟨g, 0, none⟩) hb).trans hs.2.1, Nat.lt_of_lt_of_le hs.2.2 ho.size⟩

/-- grow -/
def GrowP (g : Nat) (n : Int) (r : Bool) (w : World) (e : Ending) (w' : World) : Prop := e = .returned (.bool r) ∧ Sz w' g (n + 1) ∧ Only g w w'
theorem grow_any (g : Nat) (n deep : Int) (w : World) (h : Sz w g n) (h0 : 0 ≤ n) (h1 : n ≤ 24) : Calls Tryz.prog 214 #[.pointer (some ⟨g, 0, none⟩), .int .i64 deep] w (GrowP g n (decide (n + 1 ≤ 24) && decide (deep ≤ 6)) w) := by
  have hw : IntKind.i64.wrap (n + 1) = n + 1 := by rw [IntKind.wrap_i64]; omega
  have hset := h.set (n + 1)
  obtain ⟨hc, hf, hl⟩ := h
  rw [← hw] at hset
  have HS := Lib.hid hset
  clear hset
  by_cases hn : n + 1 ≤ 24
  · have hr : (decide (n + 1 ≤ 24) && decide (deep ≤ 6)) = decide (deep ≤ 6) := by simp [hn]
    rw [hr]
    go_enter Tryz.func214, Tryz.ntmps214
    go_wp2
    go_ret
    exact ⟨rfl, by have := HS.out; rw [hw] at this; exact this, (Only.refl _ _).set _ _⟩
  · have hr : (decide (n + 1 ≤ 24) && decide (deep ≤ 6)) = false := by simp; intro h; omega
    rw [hr]
    go_enter Tryz.func214, Tryz.ntmps214
    go_wp2
    go_ret
    exact ⟨rfl, by have := HS.out; rw [hw] at this; exact this, (Only.refl _ _).set _ _⟩

/-- holds: the count has come from 24 - n to 24 - leftF d e n -/
def HoldP (g : Nat) (m : Int) (w : World) (e : Ending) (w' : World) : Prop := e = .returned (.bool (decide (0 ≤ m))) ∧ (0 ≤ m → Sz w' g (24 - m)) ∧ Only g w w'
set_option maxHeartbeats 2000000 in
theorem holds_any (w0 : World) (g : Nat) (hg : w0.heap.size ≤ g) : ∀ (D : Nat) (d : Nat) (e : Ex) (A : Option Addr) (c : Nat) (n deep : Int) (w : World), d ≤ 6 → deep = 7 - d → 0 ≤ n → n ≤ 24 → ExK w0 D A c e → Below w0.heap.size w0 w → Sz w g (24 - n) →
    Calls Tryz.prog 232 #[.pointer (some ⟨g, 0, none⟩), agX e.op A e.kids.length c e.name e.val, .int .i64 deep] w (HoldP g (leftF d e n) w)
  | 0, _, _, _, _, _, _, _, _, _, _, _, h, _, _ => False.elim h
  | D + 1, d, e, A, c, n, deep, w, hd, hdeep, h0, h1, hx, hb, hs => by
    obtain ⟨h2, h3, h4, h5⟩ := hx
    have ih := holds_any w0 g hg D
    unfold maxLen at h3
    have hlen : e.kids.length ≤ 9223372036854775807 := by omega
    have hgr : ∀ W, Sz W g (24 - n) → Calls Tryz.prog 214 #[.pointer (some ⟨g, 0, none⟩), .int .i64 deep] W (GrowP g (24 - n) (decide (24 - n + 1 ≤ 24) && decide (deep ≤ 6)) W) := fun W h => grow_any g (24 - n) deep W h (by omega) (by omega)
    have hsb : ∀ o, Sz (w.alloc o) g (24 - n) := fun o => hs.below ((Below.refl _ _).alloc (Nat.le_refl _) _) hs.2.2
    have HSB := Lib.hid hsb
    have hgl := hs.2.2
    by_cases hbad : n = 0 ∨ d = 0
    · have hr : (decide (24 - n + 1 ≤ 24) && decide (deep ≤ 6)) = false := by
        rcases hbad with h | h
        · subst h; simp
        · subst h; simp; omega
      have hm : leftF d e n < 0 := by
        rcases hbad with h | h
        · exact leftF_neg d e n (by omega)
        · subst h; show (-1 : Int) < 0; decide
      rw [hr] at hgr
      have HGR := Lib.hid hgr
      have HM := Lib.hid hm
      clear hgr hm hr ih h5 hsb hs hbad hdeep hd h3
      go_enter Tryz.func232, Tryz.ntmps232
      go_wp2_with (go_at_call 214; refine (HGR.out _ (HSB.out _)).mono ?_; rintro e w1 ⟨rfl, hz1, ho1⟩)
      go_ret
      exact ⟨ret_bool (by have := HM.out; simp; omega), fun h => absurd h (by have := HM.out; omega), (((Only.refl _ _).below ((Below.refl _ _).alloc (Nat.le_refl _) _))).trans ho1⟩
    · have hr : (decide (24 - n + 1 ≤ 24) && decide (deep ≤ 6)) = true := by
        simp; omega
      rw [hr] at hgr
      obtain ⟨d', rfl⟩ : ∃ d', d = d' + 1 := ⟨d - 1, by omega⟩
      have hm : leftF (d' + 1) e n = leftL (leftF d') e.kids (n - 1) := rfl
      have hwd : IntKind.i64.wrap (deep + 1) = deep + 1 := by rw [IntKind.wrap_i64]; omega
      rw [hm]
      have HGR := Lib.hid hgr
      have HIH := Lib.hid (fun e A c n W (hx : ExK w0 D A c e) (hn : 0 ≤ n) (hn4 : n ≤ 24) (hB : Below w0.heap.size w0 W) (hS : Sz W g (24 - n)) => ih d' e A c n (deep + 1) W (by omega) (by omega) hn hn4 hx hB hS)
      have H5 := Lib.hid h5
      have HB := Lib.hid hb
      clear hgr hm hr ih h5 hsb hs hb
      obtain ⟨eop, enm, ev, ks⟩ := e
      simp only [Ex.kids, Ex.op, Ex.name, Ex.val] at *
      have HD := Lib.hid (And.intro hd hdeep)
      have hsf := fun (w : World) (a : Addr) (m : Mode) (b : Nat) => run_store Tryz.prog w a (.float .f64 b) m rfl
      clear hd hdeep
      go_enter Tryz.func232, Tryz.ntmps232
      go_wp2_with (go_at_call 214; refine (HGR.out _ (HSB.out _)).mono ?_; rintro e w1 ⟨rfl, hz1, ho1⟩; obtain ⟨hc1, hf1⟩ := onlyc (b := w.heap.size) ho1 (by simp) (by omega))
      go_loopw [16] (fun i wr => ∃ (k : Nat) (m : Int), k ≤ ks.length ∧ i = .int .i64 k ∧ leftL (leftF d') (ks.drop k) m = leftL (leftF d') ks (n - 1) ∧ 0 ≤ m ∧ m ≤ 24 ∧ Sz wr g (24 - m) ∧ Only g w wr) (fun i _ => ks.length - (intOf i).toNat)
      case atStart => exact ⟨0, n - 1, Nat.zero_le _, rfl, rfl, by have := hbad; omega, by omega, by rw [show 24 - (n - 1) = 24 - n + 1 by omega]; exact hz1, ((Only.refl _ _).below ((Below.refl _ _).alloc (Nat.le_refl _) _)).trans ho1⟩
      case round =>
        obtain ⟨k, m, hk, rfl, hm, hm0, hm4, hz, ho⟩ := hrel
        by_cases hlt : k < ks.length
        · obtain ⟨ad, A', c', rfl, hbl, hkid, hsub⟩ := H5.out k hlt
          have hB : Below w0.heap.size w0 wr := HB.out.trans (ho.to_below HB.out.size hg)
          obtain ⟨q0, q1, q2, q3, q4, q5, q6, q7⟩ := hkid.below hB (by rw [block_add]; exact hbl)
          have hcall := fun o => HIH.out ks[k] A' c' m (wr.alloc o) hsub hm0 hm4 (hB.trans ((Below.refl _ _).alloc hB.size _)) (hz.below ((Below.refl _ _).alloc (Nat.le_refl _) _) hz.2.2)
          have hdr := leftL_drop (leftF d') ks k hlt m hm0
          have hle := leftF_le d' ks[k] m
          rw [hdr] at hm
          generalize leftF d' ks[k] m = m' at hcall hm hle
          generalize ks[k].op = ko at q0 hcall
          generalize ks[k].name = kn at q2 hcall
          generalize ks[k].val = ky at q3 q4 q5 q6 q7 hcall
          generalize ks[k].kids.length = kl at q1 hcall
          have HC := Lib.hid hcall
          have HM := Lib.hid hm
          have HO := Lib.hid ho
          clear hcall hm hdr hkid hsub hB hm0 hz hz1 ho1 ho
          by_cases hp : 0 ≤ m'
          · have hpd : decide (0 ≤ m') = true := by simpa using hp
            go_wp2_with (go_at_call 232; refine (HC.out _).mono ?_; rintro e w2 ⟨rfl, hz2, ho2⟩)
            go_roundw
            case rel => exact ⟨k + 1, m', by omega, by go_num, HM.out, hp, by have := hle; omega, hz2 hp, (HO.out.below ((Below.refl _ _).alloc (Nat.le_refl _) _)).trans ho2⟩
            case measure => simp [intOf]; omega
          · have hpd : decide (0 ≤ m') = false := by simpa using hp
            go_wp2_with (go_at_call 232; refine (HC.out _).mono ?_; rintro e w2 ⟨rfl, hz2, ho2⟩)
            go_ret
            exact ⟨ret_bool (by have := HM.out; rw [← this, leftL_neg _ _ _ (by omega)]; simpa using hp), fun h => absurd h (by have := HM.out; rw [← this, leftL_neg _ _ _ (by omega)]; omega), (HO.out.below ((Below.refl _ _).alloc (Nat.le_refl _) _)).trans ho2⟩
        · obtain rfl : k = ks.length := by omega
          have HM := Lib.hid hm
          clear hm
          have hmm : m = leftL (leftF d') ks (n - 1) := by have := HM.out; rw [List.drop_length] at this; exact this
          have HMM := Lib.hid hmm
          clear hmm
          go_wp2
          go_ret
          exact ⟨ret_bool (by rw [← HMM.out]; simpa using hm0), fun _ => by rw [← HMM.out]; exact hz, ho⟩
/-- small -/
theorem small_any (D : Nat) (e : Ex) (A : Option Addr) (c : Nat) (w : World) (hx : ExK w D A c e) : Calls Tryz.prog 196 #[agX e.op A e.kids.length c e.name e.val] w (VMk (.bool (smallX e)) w) := by
  have hcall : ∀ o, Calls Tryz.prog 232 #[.pointer (some ⟨w.heap.size + 1, 0, none⟩), agX e.op A e.kids.length c e.name e.val, .int .i64 1] ((w.alloc o).alloc (.cells #[.int .i64 0] 209)) (HoldP (w.heap.size + 1) (leftF 6 e 24) ((w.alloc o).alloc (.cells #[.int .i64 0] 209))) := fun o => by
    have hn := heap_alloc_new (w.alloc o) (.cells #[.int .i64 0] 209)
    have hs : (w.alloc o).heap.size = w.heap.size + 1 := by simp
    rw [hs] at hn
    refine holds_any w (w.heap.size + 1) (by omega) D 6 e A c 24 1 _ (by omega) (by decide) (by decide) (by decide) hx (vbox2 w _ _) ⟨(cell_of_row _ _ 0 _ _ (0, 0) hn).trans rfl, by unfold World.frozen?; simp only [hn]; rfl, by simp⟩
  have HC := Lib.hid hcall
  have hsm : decide (0 ≤ leftF 6 e 24) = smallX e := rfl
  rw [← hsm]
  clear hcall hsm hx
  generalize leftF 6 e 24 = m at *
  obtain ⟨eop, enm, ev, ks⟩ := e
  simp only [Ex.kids, Ex.op, Ex.name, Ex.val] at *
  go_enter Tryz.func196, Tryz.ntmps196
  go_wp2_with (go_at_call 232; refine (HC.out _).mono ?_; rintro e w2 ⟨rfl, hz2, ho2⟩)
  go_ret
  exact ⟨rfl, (vbox2 w _ _).trans (ho2.to_below (by simp; omega) (by omega))⟩
end Go.Proofs.YtkahhoefbphllaaGreat

/- Layer 5: Check, by the program. -/
namespace Go.Proofs.YtkahhoefbphllaaGreat
open Go.RowKit
set_option linter.unusedVariables false
set_option linter.unusedSimpArgs false
set_option maxRecDepth 20000

/-! by definition -/
def kindL (op : Int) (l : List Int) : Int × Bool := kindT op (l.getD 0 0) (l.getD 1 0) (l.getD (l.length - 1) 0)
theorem formB_iff (e : Ex) : formB e = true ↔ ¬ (kidsN e.op ≠ e.kids.length ∨ (e.op ≠ 2 ∧ e.name.toList ≠ []) ∨ (e.op ≠ 1 ∧ sameV e.val ⟨0, 0, false, ⟨#[]⟩, 0⟩ = false)) := by
  have hz : vZero = ⟨0, 0, false, ⟨#[]⟩, 0⟩ := rfl
  unfold formB
  rw [hz, Bool.and_eq_true, Bool.and_eq_true, Bool.or_eq_true, Bool.or_eq_true, beq_iff_eq, beq_iff_eq, beq_iff_eq, beq_iff_eq]
  generalize sameV e.val ⟨0, 0, false, ⟨#[]⟩, 0⟩ = b
  by_cases h1 : kidsN e.op = e.kids.length <;> by_cases h2 : e.op = 2 <;> by_cases h3 : e.name.toList = [] <;> by_cases h4 : e.op = 1 <;> cases b <;> simp [h1, h2, h3, h4]
theorem kindX_bad (e : Ex) (l : List Int) (fs : List Fd) (h : formB e = false) : kindX e l fs = (0, 1) := by
  have h2 : ¬ formB e = true := by rw [h]; decide
  rw [formB_iff, Classical.not_not] at h2
  unfold kindX
  exact if_pos h2
theorem kindX_const (e : Ex) (l : List Int) (fs : List Fd) (h : formB e = true) (h1 : e.op = 1) : kindX e l fs = constX e.val := by
  rw [formB_iff] at h
  unfold kindX
  rw [if_neg h, if_pos h1]
  rfl
theorem kindX_field (e : Ex) (l : List Int) (fs : List Fd) (h : formB e = true) (h1 : e.op = 2) : kindX e l fs = fieldX e.name fs := by
  rw [formB_iff] at h
  unfold kindX
  rw [if_neg h, if_neg (by omega), if_pos h1]
  rfl
theorem formB_kids (e : Ex) (h : formB e = true) : kidsN e.op = e.kids.length := by
  rw [formB_iff] at h
  exact Classical.byContradiction fun h2 => h (.inl h2)
theorem kindX_op (e : Ex) (l : List Int) (fs : List Fd) (h : formB e = true) (h1 : e.op ≠ 1) (h2 : e.op ≠ 2) (hl : l.length = e.kids.length) : kindX e l fs = if (kindL e.op l).2 = true then ((kindL e.op l).1, 0) else (0, 40) := by
  have hk := formB_kids e h
  rw [formB_iff] at h
  unfold kindX
  rw [if_neg h, if_neg h1, if_neg h2]
  clear h
  rw [← hl] at hk
  generalize e.op = op at *
  have one : kidsN op = 1 → ∃ a, l = [a] := fun h => by
    match l, hk with
    | [a], _ => exact ⟨a, rfl⟩
    | [], hk => rw [h] at hk; simp at hk
    | a :: b :: l, hk => rw [h] at hk; simp at hk; omega
  have two : kidsN op = 2 → ∃ a b, l = [a, b] := fun h => by
    match l, hk with
    | [a, b], _ => exact ⟨a, b, rfl⟩
    | [], hk => rw [h] at hk; simp at hk
    | [a], hk => rw [h] at hk; simp at hk
    | a :: b :: c :: l, hk => rw [h] at hk; simp at hk; omega
  have three : kidsN op = 3 → ∃ a b c, l = [a, b, c] := fun h => by
    match l, hk with
    | [a, b, c], _ => exact ⟨a, b, c, rfl⟩
    | [], hk => rw [h] at hk; simp at hk
    | [a], hk => rw [h] at hk; simp at hk
    | [a, b], hk => rw [h] at hk; simp at hk
    | a :: b :: c :: d :: l, hk => rw [h] at hk; simp at hk; omega
  by_cases h3 : op = 3
  · subst h3
    obtain ⟨a, rfl⟩ := one rfl
    simp [kindL, kindT]
  by_cases h12 : op = 12
  · subst h12
    obtain ⟨a, rfl⟩ := one rfl
    simp [kindL, kindT]
  by_cases h16 : op = 16
  · subst h16
    obtain ⟨a, rfl⟩ := one rfl
    simp [kindL, kindT]
  by_cases h4 : op = 4
  · subst h4
    obtain ⟨a, b, rfl⟩ := two rfl
    simp [kindL, kindT]
  by_cases h5 : op = 5
  · subst h5
    obtain ⟨a, b, rfl⟩ := two rfl
    simp [kindL, kindT]
  by_cases h6 : op = 6
  · subst h6
    obtain ⟨a, b, rfl⟩ := two rfl
    simp [kindL, kindT]
  by_cases h7 : op = 7
  · subst h7
    obtain ⟨a, b, rfl⟩ := two rfl
    simp [kindL, kindT]
  by_cases h14 : op = 14
  · subst h14
    obtain ⟨a, b, rfl⟩ := two rfl
    simp [kindL, kindT]
  by_cases h15 : op = 15
  · subst h15
    obtain ⟨a, b, rfl⟩ := two rfl
    simp [kindL, kindT]
  by_cases h8 : op = 8
  · subst h8
    obtain ⟨a, b, rfl⟩ := two rfl
    simp [kindL, kindT]
  by_cases h9 : op = 9
  · subst h9
    obtain ⟨a, b, rfl⟩ := two rfl
    simp [kindL, kindT, or_assoc, or_comm, or_left_comm]
  by_cases h10 : op = 10
  · subst h10
    obtain ⟨a, b, rfl⟩ := two rfl
    simp [kindL, kindT]
  by_cases h11 : op = 11
  · subst h11
    obtain ⟨a, b, rfl⟩ := two rfl
    simp [kindL, kindT]
  by_cases h13 : op = 13
  · subst h13
    obtain ⟨a, b, c, rfl⟩ := three rfl
    simp only [kindL, kindT]
    simp
    split <;> simp_all
  exfalso
  unfold kidsN at hk
  simp [*] at hk
/-- the kids' kinds, one by one -/
theorem chkL_good (f : Ex → Int × Int) : ∀ ks : List Ex, (∀ (j : Nat) (hj : j < ks.length), (f ks[j]).2 = 0) → chkL f ks = (ks.map fun k => (f k).1, 0)
  | [], _ => rfl
  | k :: ks, h => by
    have h0 := h 0 (by simp)
    rw [List.getElem_cons_zero] at h0
    rw [chkL, if_neg (by rw [h0]; decide), chkL_good f ks (fun j hj => h (j + 1) (by simpa using hj)), if_neg (fun h => h rfl)]
    rfl
theorem chkL_bad (f : Ex → Int × Int) : ∀ (ks : List Ex) (k : Nat) (hk : k < ks.length), (∀ (j : Nat) (hj : j < k), (f (ks[j]'(by omega))).2 = 0) → (f ks[k]).2 ≠ 0 → (chkL f ks).2 = (f ks[k]).2
  | [], k, hk, _, _ => absurd hk (Nat.not_lt_zero _)
  | x :: ks, 0, hk, h, hn => by rw [List.getElem_cons_zero] at hn ⊢; rw [chkL, if_pos hn]
  | x :: ks, k + 1, hk, h, hn => by
    have h0 := h 0 (by omega)
    rw [List.getElem_cons_zero] at h0
    rw [List.getElem_cons_succ] at hn ⊢
    have hr := chkL_bad f ks k (by simpa using hk) (fun j hj => by have := h (j + 1) (by omega); rwa [List.getElem_cons_succ] at this) hn
    rw [chkL, if_neg (by rw [h0]; decide), if_pos (by rw [hr]; exact hn), hr]
end Go.Proofs.YtkahhoefbphllaaGreat

/- Layer 5: Check, by the program: the walk. -/
namespace Go.Proofs.YtkahhoefbphllaaGreat
open Go.RowKit
set_option linter.unusedVariables false
set_option linter.unusedSimpArgs false
set_option maxRecDepth 20000

theorem eintinfo : (Tryz.prog.info? 3).map (fun i => (i.zero, i.size, i.bytes)) = some (some (.int .i64 0), 1, 8) := by kernel_rfl
theorem deepX_kid {d : Nat} {e : Ex} (hd : deepX d e) (hs : sizeX d e ≤ 24) : ∃ d', d = d' + 1 ∧ e.kids.length ≤ 23 ∧ ∀ (j : Nat) (hj : j < e.kids.length), deepX d' e.kids[j] ∧ sizeX d' e.kids[j] ≤ 24 := by
  cases d with
  | zero => exact False.elim hd
  | succ d =>
    refine ⟨d, rfl, ?_, fun j hj => ⟨hd _ (List.getElem_mem hj), ?_⟩⟩
    · have h1 : ∀ ks : List Ex, (∀ k ∈ ks, deepX d k) → ks.length ≤ (ks.map (sizeX d)).sum := by
        intro ks
        induction ks with
        | nil => intro _; exact Nat.le_refl _
        | cons k ks ih =>
          intro h
          have h0 := h k (List.mem_cons_self ..)
          have h2 := ih (fun x hx => h x (List.mem_cons_of_mem _ hx))
          rw [List.map_cons, List.sum_cons, List.length_cons]
          cases d with
          | zero => exact False.elim h0
          | succ d => have : 1 ≤ sizeX (d + 1) k := by unfold sizeX; omega
                      omega
      have := h1 e.kids hd
      unfold sizeX at hs
      omega
    · have h2 : ∀ (ks : List Ex) (j : Nat) (hj : j < ks.length), sizeX d ks[j] ≤ (ks.map (sizeX d)).sum := by
        intro ks
        induction ks with
        | nil => intro j hj; exact absurd hj (Nat.not_lt_zero _)
        | cons k ks ih =>
          intro j hj
          rw [List.map_cons, List.sum_cons]
          cases j with
          | zero => rw [List.getElem_cons_zero]; omega
          | succ j => have := ih j (by simpa using hj); rw [List.getElem_cons_succ]; omega
      have := h2 e.kids j hj
      unfold sizeX at hs
      omega
theorem kns_of (w : World) (g n : Nat) (t : TypeId) (kk : Nat → Int) (l : List Int) (hr : w.rowIs g t n (fun j => .int .i64 (kk j))) (hl : l.length = n) (h0 : 0 < n) (h24 : n ≤ 24) (hk : ∀ (j : Nat) (hj : j < l.length), kk j = l[j]) : Kns w ⟨g, 0, none⟩ n (l.getD 0 0) (l.getD 1 0) (l.getD (l.length - 1) 0) := by
  have hat : ∀ j, j < n → w.cell? ⟨g, j, none⟩ = some (.int .i64 (l.getD j 0)) := fun j hj => by
    rw [hr.cell hj, hk j (by omega), List.getD_eq_getElem?_getD, List.getElem?_eq_getElem (by omega)]; rfl
  refine ⟨h0, h24, hat 0 h0, ?_, fun h3 => ?_⟩
  · rw [Addr.add_lit, Nat.zero_add, hl]; exact hat _ (by omega)
  · exact hat 1 (by omega)
theorem CellsX.set_off {W : World} {b g : Nat} {op : Int} {A : Option Addr} {n c : Nat} {nm : ByteArray} {y : Vl} (h : CellsX W b op A n c nm y) (hne : b ≠ g) (j : Nat) (u : Value) : CellsX (W.setCell ⟨g, j, none⟩ u) b op A n c nm y := by
  have hk : ∀ o, (W.setCell ⟨g, j, none⟩ u).cell? ⟨b, o, none⟩ = W.cell? ⟨b, o, none⟩ := fun o => World.cell?_setCell_other W (a := ⟨g, j, none⟩) (b := ⟨b, o, none⟩) (v := u) (by intro e; injection e with e _ _; exact hne e.symm)
  unfold CellsX
  simp only [hk]
  exact h
set_option maxHeartbeats 4000000 in
theorem check_any (FA : Option Addr) (FC : Nat) (fs : List Fd) : ∀ (D d : Nat) (e : Ex) (A : Option Addr) (c : Nat) (w : World), ExK w D A c e → FdK w FA FC fs → deepX d e → sizeX d e ≤ 24 →
    Calls Tryz.prog 248 #[agX e.op A e.kids.length c e.name e.val, .slice FA fs.length FC] w (VMk (pairII (chkX d e fs)) w)
  | 0, _, _, _, _, _, h, _, _, _ => False.elim h
  | D + 1, d, e, A, c, w, hx, hf, hdeep, hsize => by
    obtain ⟨d, rfl, h23, hkids⟩ := deepX_kid hdeep hsize
    have ih := check_any FA FC fs D
    obtain ⟨h2, h3, h4, h5⟩ := hx
    have hsp0 := kindX_bad e (e.kids.map fun k => (chkX d k fs).1) fs
    have hsp1 := kindX_const e (e.kids.map fun k => (chkX d k fs).1) fs
    have hsp2 := kindX_field e (e.kids.map fun k => (chkX d k fs).1) fs
    have hsp3 := fun h h1 h2 => kindX_op e (e.kids.map fun k => (chkX d k fs).1) fs h h1 h2 (by simp)
    have hchk : chkX (d + 1) e fs = if (chkL (fun k => chkX d k fs) e.kids).2 ≠ 0 then (0, (chkL (fun k => chkX d k fs) e.kids).2) else kindX e (chkL (fun k => chkX d k fs) e.kids).1 fs := rfl
    have hgood := chkL_good (fun k => chkX d k fs) e.kids
    have hbad := chkL_bad (fun k => chkX d k fs) e.kids
    have hcall : ∀ (j : Nat) (hj : j < e.kids.length) A' c' W, ExK w D A' c' e.kids[j] → Below w.heap.size w W → Calls Tryz.prog 248 #[agX e.kids[j].op A' e.kids[j].kids.length c' e.kids[j].name e.kids[j].val, .slice FA fs.length FC] W (VMk (pairII (chkX d e.kids[j] fs)) W) :=
      fun j hj A' c' W hx hB => ih d e.kids[j] A' c' W (hx.below hB (Nat.le_refl _)) (hf.below hB (Nat.le_refl _)) (hkids j hj).1 (hkids j hj).2
    have hform := formed_any e.op e.name e.val e.kids.length c A
    have hfb : ((kidsN e.op == (e.kids.length : Int)) && ((e.op == 2 || (e.name.toList == [])) && (e.op == 1 || sameV e.val vZero))) = formB e := rfl
    rw [hfb] at hform
    clear hfb
    have hfk := formB_kids e
    have hfield : ∀ W, Below w.heap.size w W → Calls Tryz.prog 264 #[.string e.name, .slice FA fs.length FC] W (VMk (pairII (fieldX e.name fs)) W) := fun W hB => fieldKind_any e.name FA FC fs W (hf.below hB (Nat.le_refl _))
    have hconst := constKind_any e.val
    have hkind := fun g n c a m z W h hn h1 h2 => kindOf_any e.op g n c a m z W h hn h1 h2
    have hkt : ∀ l : List Int, kindT e.op (l.getD 0 0) (l.getD 1 0) (l.getD (l.length - 1) 0) = kindL e.op l := fun l => rfl
    generalize chkX (d + 1) e fs = RES at hchk ⊢
    generalize formB e = fb at hform hsp0 hsp1 hsp2 hsp3 hfk
    generalize constX e.val = cx at hconst hsp1
    generalize fieldX e.name fs = fx at hfield hsp2
    have hml : ∀ (j : Nat) (hj : j < (e.kids.map fun k => (chkX d k fs).1).length), (e.kids.map fun k => (chkX d k fs).1)[j] = (chkX d (e.kids[j]'(by simpa using hj)) fs).1 := fun j hj => by simp
    have hmn : (e.kids.map fun k => (chkX d k fs).1).length = e.kids.length := by simp
    clear ih hkids hsize hdeep
    generalize e.kids = ks at *
    generalize e.op = eop at *
    generalize e.name = enm at *
    generalize e.val = ev at *
    have hmk := fun (W : World) => run_make_row' (P := Tryz.prog) 43 3 (.int .i64 0) 8 Tryz.underlying43 eintinfo rfl .i64 .i64 ks.length (by omega) (by omega) W
    have hsf := fun (w : World) (a : Addr) (m : Mode) (b : Nat) => run_store Tryz.prog w a (.float .f64 b) m rfl
    have HCALL := Lib.hid hcall
    have HFORM := Lib.hid hform
    have HFIELD := Lib.hid hfield
    have HCONST := Lib.hid hconst
    have HKIND := Lib.hid hkind
    have HPURE := Lib.hid (And.intro hchk (And.intro hgood hbad))
    have HSP := Lib.hid (And.intro hsp0 (And.intro hsp1 (And.intro hsp2 (And.intro hsp3 hfk))))
    have HML := Lib.hid (And.intro hml (And.intro hmn hkt))
    have H5 := Lib.hid h5
    have H23 := Lib.hid h23
    clear hcall hform hfield hconst hkind hchk hgood hbad hsp0 hsp1 hsp2 hsp3 hfk hml hmn hkt h5 h23 hf h2 h3 h4
    go_enter Tryz.func248, Tryz.ntmps248
    go_wp2
    go_loopw [20] (fun i wr => ∃ (k : Nat) (kk : Nat → Int), k ≤ ks.length ∧ i = .int .i64 k ∧ (∀ (j : Nat) (hj : j < ks.length), j < k → (chkX d ks[j] fs).2 = 0 ∧ kk j = (chkX d ks[j] fs).1) ∧ wr.rowIs (w.heap.size + 1) 3 ks.length (fun j => .int .i64 (kk j)) ∧ Below w.heap.size w wr ∧ CellsX wr w.heap.size eop A ks.length c enm ev) (fun i _ => ks.length - (intOf i).toNat)
    case atStart =>
      refine ⟨0, fun _ => 0, Nat.zero_le _, rfl, fun j hj h => absurd h (Nat.not_lt_zero _), ?_, vbox2 w _ _, (Kid_new w eop A ks.length c enm ev).below ((Below.refl _ _).alloc (Nat.le_refl _) _)⟩
      have := World.rowIs_made (w.alloc (bxX eop A ks.length c enm ev)) (.int .i64 0) ks.length 3
      have hs : (w.alloc (bxX eop A ks.length c enm ev)).heap.size = w.heap.size + 1 := by simp
      rw [hs] at this
      exact this
    case round =>
      obtain ⟨k, kk, hk, rfl, hdone, hrow, hb, hbox⟩ := hrel
      have h23 := H23.out
      by_cases hlt : k < ks.length
      · obtain ⟨ad, A', c', rfl, hbl, hkid, hsub⟩ := H5.out k hlt
        obtain ⟨q0, q1, q2, q3, q4, q5, q6, q7⟩ := hkid.below hb (by rw [block_add]; exact hbl)
        have hcall := fun o => HCALL.out k hlt A' c' (wr.alloc o) hsub (hb.alloc hb.size o)
        have hall : (chkX d ks[k] fs).2 = 0 → ∀ kk' : Nat → Int, (∀ j, j < k → kk' j = kk j) → kk' k = (chkX d ks[k] fs).1 → ∀ (j : Nat) (hj : j < ks.length), j < k + 1 → (chkX d ks[j] fs).2 = 0 ∧ kk' j = (chkX d ks[j] fs).1 := fun h0 kk' h1 h2 j hj hjk => by
          by_cases hjk2 : j < k
          · rw [h1 j hjk2]; exact hdone j hj hjk2
          · obtain rfl : j = k := by omega
            exact ⟨h0, h2⟩
        have hres : (chkX d ks[k] fs).2 ≠ 0 → RES = (0, (chkX d ks[k] fs).2) := fun hne => by
          have := HPURE.out.2.2 k hlt (fun j hj => (hdone j (by omega) hj).1) hne
          rw [HPURE.out.1, if_pos (by rw [this]; exact hne), this]
        have HALL := Lib.hid hall
        have HRES := Lib.hid hres
        clear hall hres hdone
        generalize chkX d ks[k] fs = r at hcall HALL HRES
        obtain ⟨r1, r2⟩ := r
        generalize ks[k].op = ko at q0 hcall
        generalize ks[k].name = kn at q2 hcall
        generalize ks[k].val = ky at q3 q4 q5 q6 q7 hcall
        generalize ks[k].kids.length = kl at q1 hcall
        have HC := Lib.hid hcall
        have HROW := Lib.hid hrow
        have HBOX := Lib.hid hbox
        clear hcall hkid hsub hrow hbox
        have hgl := HROW.out.lt
        rcases hz : (r2 != 0) with _ | _
        · have hz0 : r2 = 0 := by simpa using hz
          subst hz0
          go_wp2_with (go_at_call 248; refine (HC.out _).mono ?_; rintro e w2 ⟨rfl, hb2⟩; have hrow2 := (HROW.out.alloc _).of_block (hb2.block _ (by simp; omega)); have hc2 := hrow2.cell hlt; have hf2 := hrow2.frozen k; have HROW2 := Lib.hid hrow2; clear hrow2)
          go_roundw
          case rel =>
            refine ⟨k + 1, fun j => if j = k then r1 else kk j, by omega, by go_num, HALL.out (by first | rfl | trivial) _ (fun j hj => if_neg (by omega)) (if_pos rfl), ?_, ?_, ?_⟩
            · exact (HROW2.out.set k (.int .i64 r1)).congr (fun j hj => by by_cases h : j = k <;> simp [h])
            · exact (hb.trans ((Below.refl _ _).alloc hb.size _)).trans (hb2.mono (by have := hb.size; simp; omega)) |>.setCell (by simp) _
            · exact CellsX.set_off (HBOX.out.below (((Below.refl _ _).alloc (Nat.le_refl _) _).trans (hb2.mono (by simp)))) (by omega) _ _
          case measure => simp [intOf]; omega
        · have hz0 : r2 ≠ 0 := by simpa using hz
          go_wp2_with (go_at_call 248; refine (HC.out _).mono ?_; rintro e w2 ⟨rfl, hb2⟩)
          have hfin := HRES.out hz0
          refine bodyPost_ret (v := pairII (0, r2)) (by simp [results, Tryz.results248, go_sem]) rfl ⟨by rw [hfin], ?_⟩
          exact (hb.trans ((Below.refl _ _).alloc hb.size _)).trans (hb2.mono (by have := hb.size; simp; omega))
      · obtain rfl : k = ks.length := by omega
        have hgd := HPURE.out.2.1 (fun j hj => (hdone j hj hj).1)
        have hR : RES = kindX e (List.map (fun k => (chkX d k fs).1) ks) fs := by
          rw [HPURE.out.1, hgd, if_neg (fun h => h rfl)]
        have hml := HML.out
        have hkk : ∀ (j : Nat) (hj : j < (List.map (fun k => (chkX d k fs).1) ks).length), kk j = (List.map (fun k => (chkX d k fs).1) ks)[j] := fun j hj => by
          have hj' : j < ks.length := by simpa using hj
          rw [hml.1 j hj]; exact (hdone j hj' hj').2
        have hkns := fun (W : World) (hr : W.rowIs (w.heap.size + 1) 3 ks.length (fun j => .int .i64 (kk j))) (h0 : 0 < ks.length) => kns_of W (w.heap.size + 1) ks.length _ kk _ hr hml.2.1 h0 (by omega) hkk
        have hkd := fun (W : World) (hr : W.rowIs (w.heap.size + 1) 3 ks.length (fun j => .int .i64 (kk j))) (h0 : 0 < ks.length) hn h1 h2 => HKIND.out ⟨w.heap.size + 1, 0, none⟩ ks.length ks.length _ _ _ W (hkns W hr h0) hn h1 h2
        simp only [hml.2.2] at hkd
        have hsp := HSP.out
        rw [← hR] at hsp
        clear hkns hkk hml hR hgd hdone
        generalize kindL eop (List.map (fun k => (chkX d k fs).1) ks) = kt at hkd hsp
        have HKD := Lib.hid hkd
        have HS := Lib.hid hsp
        have HROW := Lib.hid hrow
        have HB := Lib.hid hbox
        obtain ⟨b0, b1, b2, b3, b4, b5, b6, b7⟩ := hbox
        have hgl := hrow.lt
        clear hkd hsp hrow
        have hkeep : ∀ W, Below wr.heap.size wr W → CellsX W w.heap.size eop A ks.length c enm ev ∧ W.rowIs (w.heap.size + 1) 3 ks.length (fun j => .int .i64 (kk j)) := fun W h => ⟨HB.out.below h, HROW.out.of_block (h.block _ hgl)⟩
        have HKEEP := Lib.hid hkeep
        clear hkeep
        rcases fb with _ | _
        · have hfin := HS.out.1 rfl
          have HFIN := Lib.hid hfin
          clear hfin
          go_wp2_with (go_at_call 262; refine (HFORM.out _).mono ?_; rintro e w2 ⟨rfl, hb2⟩)
          exact bodyPost_ret (v := pairII (0, 1)) (by simp [results, Tryz.results248, go_sem]) rfl ⟨by rw [HFIN.out], hb.trans (hb2.mono hb.size)⟩
        by_cases o1 : eop = 1
        · have hfin := HS.out.2.1 rfl o1
          have HFIN := Lib.hid hfin
          clear hfin
          subst o1
          go_wp2_with (first
            | (go_at_call 262; refine (HFORM.out _).mono ?_; rintro e w2 ⟨rfl, hb2⟩; obtain ⟨d0, d1, d2, d3, d4, d5, d6, d7⟩ := (HKEEP.out _ hb2).1)
            | (go_at_call 263; refine (HCONST.out _).mono ?_; rintro e w3 ⟨rfl, hb3⟩))
          exact bodyPost_ret (v := pairII cx) (by simp [results, Tryz.results248, go_sem]) rfl ⟨by rw [HFIN.out], (hb.trans (hb2.mono hb.size)).trans (hb3.mono (by have := hb.size; have := hb2.size; omega))⟩
        by_cases o2 : eop = 2
        · have hfin := HS.out.2.2.1 rfl o2
          have HFIN := Lib.hid hfin
          clear hfin
          subst o2
          go_wp2_with (first
            | (go_at_call 262; refine (HFORM.out _).mono ?_; rintro e w2 ⟨rfl, hb2⟩; obtain ⟨d0, d1, d2, d3, d4, d5, d6, d7⟩ := (HKEEP.out _ hb2).1)
            | (go_at_call 264; refine (HFIELD.out _ (hb.trans (hb2.mono hb.size))).mono ?_; rintro e w3 ⟨rfl, hb3⟩))
          exact bodyPost_ret (v := pairII fx) (by simp [results, Tryz.results248, go_sem]) rfl ⟨by rw [HFIN.out], (hb.trans (hb2.mono hb.size)).trans (hb3.mono (by have := hb.size; have := hb2.size; omega))⟩
        have hfin := HS.out.2.2.2.1 rfl o1 o2
        have hkn := HS.out.2.2.2.2 rfl
        have hpos : 0 < ks.length := by
          rcases Nat.eq_zero_or_pos ks.length with h0 | h0
          · exfalso
            rw [h0] at hkn
            unfold kidsN at hkn
            rw [if_neg (by omega)] at hkn
            split at hkn
            · simp at hkn
            split at hkn
            · simp at hkn
            split at hkn <;> simp at hkn
          · exact h0
        have HFIN := Lib.hid hfin
        have hkd := fun W hr => HKD.out W hr hpos hkn o1 o2
        have HKD2 := Lib.hid hkd
        have h1b : (eop == 1) = false := by simpa using o1
        have h2b : (eop == 2) = false := by simpa using o2
        clear hfin hkn hkd HKD
        obtain ⟨kt1, kt2⟩ := kt
        rcases kt2 with _ | _
        · go_wp2_with (first
            | (go_at_call 262; refine (HFORM.out _).mono ?_; rintro e w2 ⟨rfl, hb2⟩; obtain ⟨d0, d1, d2, d3, d4, d5, d6, d7⟩ := (HKEEP.out _ hb2).1)
            | (go_at_call 265; refine (HKD2.out _ (HKEEP.out _ hb2).2).mono ?_; rintro e w3 ⟨rfl, hb3⟩))
          exact bodyPost_ret (v := pairII (0, 40)) (by simp [results, Tryz.results248, go_sem]) rfl ⟨by rw [HFIN.out]; rfl, (hb.trans (hb2.mono hb.size)).trans (hb3.mono (by have := hb.size; have := hb2.size; omega))⟩
        · go_wp2_with (first
            | (go_at_call 262; refine (HFORM.out _).mono ?_; rintro e w2 ⟨rfl, hb2⟩; obtain ⟨d0, d1, d2, d3, d4, d5, d6, d7⟩ := (HKEEP.out _ hb2).1)
            | (go_at_call 265; refine (HKD2.out _ (HKEEP.out _ hb2).2).mono ?_; rintro e w3 ⟨rfl, hb3⟩))
          exact bodyPost_ret (v := pairII (kt1, 0)) (by simp [results, Tryz.results248, go_sem]) rfl ⟨by rw [HFIN.out]; rfl, (hb.trans (hb2.mono hb.size)).trans (hb3.mono (by have := hb.size; have := hb2.size; omega))⟩

/-- Check -/
theorem eCheck_any (FA : Option Addr) (FC : Nat) (fs : List Fd) (D : Nat) (e : Ex) (A : Option Addr) (c : Nat) (w : World) (hx : ExK w D A c e) (hf : FdK w FA FC fs) :
    Calls Tryz.prog 221 #[agX e.op A e.kids.length c e.name e.val, .slice FA fs.length FC] w (VMk (pairII (checkX e fs)) w) := by
  have hs := fun W (hb : Below w.heap.size w W) => small_any D e A c W (hx.below hb (Nat.le_refl _))
  have hc : smallX e = true → ∀ W, Below w.heap.size w W → Calls Tryz.prog 248 #[agX e.op A e.kids.length c e.name e.val, .slice FA fs.length FC] W (VMk (pairII (chkX 6 e fs)) W) := fun h W hb => by
    obtain ⟨h1, h2⟩ := (smallX_iff e).1 h
    exact check_any FA FC fs D 6 e A c W (hx.below hb (Nat.le_refl _)) (hf.below hb (Nat.le_refl _)) h1 h2
  have hr : checkX e fs = if smallX e then chkX 6 e fs else (0, 51) := rfl
  rw [hr]
  generalize chkX 6 e fs = r at hc ⊢
  generalize smallX e = b at hs hc ⊢
  generalize e.kids.length = n at *
  generalize e.op = eop at *
  generalize e.name = enm at *
  generalize e.val = ev at *
  have hb0 : ∀ o, Below w.heap.size w (w.alloc o) := fun o => (Below.refl _ _).alloc (Nat.le_refl _) _
  have HS := Lib.hid hs
  clear hs hr hx hf
  rcases b with _ | _
  · clear hc
    rw [if_neg (by decide)]
    go_enter Tryz.func221, Tryz.ntmps221
    go_wp2_with (go_at_call 196; refine (HS.out _ (hb0 _)).mono ?_; rintro e w1 ⟨rfl, hb1⟩)
    exact bodyPost_ret (v := pairII (0, 51)) (by simp [results, Tryz.results221, go_sem]) rfl ⟨rfl, (hb0 _).trans (hb1.mono (by simp))⟩
  · have hc := hc rfl
    have HC := Lib.hid hc
    clear hc
    rw [if_pos rfl]
    go_enter Tryz.func221, Tryz.ntmps221
    go_wp2_with (first
      | (go_at_call 196; refine (HS.out _ (hb0 _)).mono ?_; rintro e w1 ⟨rfl, hb1⟩; obtain ⟨d0, d1, d2, d3, d4, d5, d6, d7⟩ := (Kid_new w eop A n c enm ev).below hb1)
      | (go_at_call 248; refine (HC.out _ ((hb0 _).trans (hb1.mono (by simp)))).mono ?_; rintro e w2 ⟨rfl, hb2⟩))
    exact bodyPost_ret (v := pairII r) (by simp [results, Tryz.results221, go_sem]) rfl ⟨rfl, ((hb0 _).trans (hb1.mono (by simp))).trans (hb2.mono (by have := hb1.size; simp at this; omega))⟩
end Go.Proofs.YtkahhoefbphllaaGreat

/- Layer 5: an expression hangs on what it names alone; what does not count is not reckoned. By definition. -/
namespace Go.Proofs.YtkahhoefbphllaaGreat
open Go.RowKit
set_option linter.unusedVariables false
set_option linter.unusedSimpArgs false

/-- a constant; what divides by nought -/
def conX (v : Vl) : Ex := .mk 1 ⟨#[]⟩ v []
def opX (o : Int) (ks : List Ex) : Ex := .mk o ⟨#[]⟩ vZero ks
def nought : Ex := opX 8 [opX 7 [conX (vInt 1), conX (vInt 0)], conX (vInt 1)]
theorem same_zero : sameV vZero ⟨0, 0, false, ⟨#[]⟩, 0⟩ = true := by unfold sameV; simp
theorem kind_con (v : Vl) (fs : List Fd) (hg : goodV v = true) : kindX (conX v) [] fs = (v.k, 0) := by
  unfold kindX
  rw [if_neg (by
    intro h
    rcases h with h | h | h
    · exact h rfl
    · have e : (conX v).name.toList = [] := empty_list
      exact h.2 e
    · exact h.1 rfl)]
  rw [if_pos (show (conX v).op = 1 from rfl), if_pos (show goodV (conX v).val = true from hg)]
  rfl
theorem chk_con (d : Nat) (v : Vl) (fs : List Fd) (hg : goodV v = true) : chkX (d + 1) (conX v) fs = (v.k, 0) := kind_con v fs hg
theorem ev_con (d : Nat) (v : Vl) (fs : List Fd) (vs : List Vl) : evX (d + 1) (conX v) fs vs = (v, 0) := by
  rw [evX, if_pos (show (conX v).op = 1 from rfl)]
  rfl
end Go.Proofs.YtkahhoefbphllaaGreat

/- Layer 5: what reckoning is made of, by the program: panics. -/
namespace Go.Proofs.YtkahhoefbphllaaGreat
open Go.RowKit
set_option linter.unusedVariables false
set_option linter.unusedSimpArgs false
set_option maxRecDepth 20000

/-- the panic of an error -/
abbrev PV (err : Int) : List PanicEntry := [{ v := .iface 26 (.int .i64 err), recovered := false }]
/-- an answer, or the panic of an error -/
def TellP (r : Vl × Int) (w : World) (e : Ending) (w' : World) : Prop := e = (if r.2 = 0 then .returned (agV r.1) else .panicked (PV r.2)) ∧ Below w.heap.size w w'

theorem sure_ok (v : Vl) (w : World) : Calls Tryz.prog 266 #[agV v, .int .i64 0] w (VMk (agV v) w) := by
  have hsf := fun (w : World) (a : Addr) (m : Mode) (b : Nat) => run_store Tryz.prog w a (.float .f64 b) m rfl
  go_enter Tryz.func266, Tryz.ntmps266
  go_wp2
  exact bodyPost_ret (v := agV v) (by simp [results, Tryz.results266, go_sem]) rfl ⟨rfl, vbox2 w _ _⟩
theorem sure_bad (v : Vl) (err : Int) (h : err ≠ 0) (w : World) : Calls Tryz.prog 266 #[agV v, .int .i64 err] w fun e w' => e = .panicked (PV err) ∧ Below w.heap.size w w' := by
  have h2 : (err != 0) = true := by simpa using h
  go_enter Tryz.func266, Tryz.ntmps266
  go_wp2
  exact ⟨rfl, rfl, vbox2 w _ _⟩
theorem sureB_ok (b : Bool) (w : World) : Calls Tryz.prog 285 #[.bool b, .int .i64 0] w (VGv (.bool b) w) := by
  go_enter Tryz.func285, Tryz.ntmps285
  go_wp2
  go_ret
  exact ⟨rfl, rfl⟩
theorem etruth_any (b : Bool) (w : World) : Calls Tryz.prog 271 #[.bool b] w (VMk (agV (vTruth b)) w) := by
  have hsf := fun (w : World) (a : Addr) (m : Mode) (b : Nat) => run_store Tryz.prog w a (.float .f64 b) m rfl
  go_enter Tryz.func271, Tryz.ntmps271
  go_wp2
  exact bodyPost_ret (v := agV (vTruth b)) (by simp [results, Tryz.results271, go_sem]) rfl ⟨rfl, (Below.refl _ _).alloc (Nat.le_refl _) _⟩

/-- what an op makes of two -/
def pairX (op : Int) (a b : Vl) : Vl × Int := if op = 8 then (vTruth (eqV a b).1, 0) else if op = 9 then (vTruth (ltV a b).1, 0) else reckV op a b
set_option maxHeartbeats 2000000 in
theorem pair_any (op : Int) (a b : Vl) (w : World) (ha : okV a) (hb : okV b) (h8 : op = 8 → (eqV a b).2 = 0) (h9 : op = 9 → (ltV a b).2 = 0) : Calls Tryz.prog 272 #[.int .i64 op, agV a, agV b] w (TellP (pairX op a b) w) := by
  have hsf := fun (w : World) (a : Addr) (m : Mode) (b : Nat) => run_store Tryz.prog w a (.float .f64 b) m rfl
  have htr := etruth_any
  have HTR := Lib.hid htr
  clear htr
  by_cases o8 : op = 8
  · subst o8
    have hq : ∀ W, Calls Tryz.prog 286 #[agV a, agV b] W (VMk (pairBE (eqV a b).1 0) W) := fun W => by have := Equal_val a b W; rwa [h8 rfl] at this
    have hr : pairX 8 a b = (vTruth (eqV a b).1, 0) := rfl
    rw [hr]
    clear hr h8 h9
    generalize (eqV a b).1 = r at hq ⊢
    have HQ := Lib.hid hq
    clear hq
    go_enter Tryz.func272, Tryz.ntmps272
    go_wp2_with (first
      | (go_at_call 286; refine (HQ.out _).mono ?_; rintro e w1 ⟨rfl, hb1⟩; obtain ⟨hc1, hf1⟩ := bcell hb1; have hz0 : w.heap.size < w1.heap.size := by { have := hb1.size; simp at this; omega }; have hz1 : w.heap.size + 1 < w1.heap.size := by { have := hb1.size; simp at this; omega }; have hz2 : w.heap.size + 2 < w1.heap.size := by { have := hb1.size; simp at this; omega })
      | (go_at_call 285; refine (sureB_ok _ _).mono ?_; rintro e w2 ⟨rfl, rfl⟩)
      | (go_at_call 271; refine (HTR.out _ _).mono ?_; rintro e w3 ⟨rfl, hb3⟩; obtain ⟨hc3, hf3⟩ := bcell hb3; have hy2 : w.heap.size + 2 < w3.heap.size := by { have := hb3.size; omega }))
    exact bodyPost_ret (v := agV (vTruth r)) (by simp [results, Tryz.results272, go_sem, hc1, hc3, hz0, hz1, hz2, hy2]) rfl ⟨rfl, vbox3_set w _ _ _ hb1 hb3 _ _ _ _ _⟩
  by_cases o9 : op = 9
  · subst o9
    have hq : ∀ W, Calls Tryz.prog 287 #[agV a, agV b] W (VMk (pairBE (ltV a b).1 0) W) := fun W => by have := Less_val a b W ha.2.2 hb.2.2; rwa [h9 rfl] at this
    have hr : pairX 9 a b = (vTruth (ltV a b).1, 0) := rfl
    rw [hr]
    clear hr h8 h9
    generalize (ltV a b).1 = r at hq ⊢
    have HQ := Lib.hid hq
    clear hq
    go_enter Tryz.func272, Tryz.ntmps272
    go_wp2_with (first
      | (go_at_call 287; refine (HQ.out _).mono ?_; rintro e w1 ⟨rfl, hb1⟩; obtain ⟨hc1, hf1⟩ := bcell hb1; have hz0 : w.heap.size < w1.heap.size := by { have := hb1.size; simp at this; omega }; have hz1 : w.heap.size + 1 < w1.heap.size := by { have := hb1.size; simp at this; omega }; have hz2 : w.heap.size + 2 < w1.heap.size := by { have := hb1.size; simp at this; omega })
      | (go_at_call 285; refine (sureB_ok _ _).mono ?_; rintro e w2 ⟨rfl, rfl⟩)
      | (go_at_call 271; refine (HTR.out _ _).mono ?_; rintro e w3 ⟨rfl, hb3⟩; obtain ⟨hc3, hf3⟩ := bcell hb3; have hy2 : w.heap.size + 2 < w3.heap.size := by { have := hb3.size; omega }))
    exact bodyPost_ret (v := agV (vTruth r)) (by simp [results, Tryz.results272, go_sem, hc1, hc3, hz0, hz1, hz2, hy2]) rfl ⟨rfl, vbox3_set w _ _ _ hb1 hb3 _ _ _ _ _⟩
  have hr : pairX op a b = reckV op a b := by unfold pairX; rw [if_neg o8, if_neg o9]
  have hq : ∀ W, Calls Tryz.prog 267 #[.int .i64 op, agV a, agV b] W (VMk (pairVE (reckV op a b).1 (reckV op a b).2) W) := fun W => Reckon_any op a b W ha.2.1 hb.2.1 ha.2.2 hb.2.2
  rw [hr]
  have b8 : (op == 8) = false := by simpa using o8
  have b9 : (op == 9) = false := by simpa using o9
  clear hr h8 h9 o8 o9
  generalize reckV op a b = r at hq ⊢
  obtain ⟨r1, r2⟩ := r
  have HQ := Lib.hid hq
  clear hq
  by_cases h0 : r2 = 0
  · subst h0
    go_enter Tryz.func272, Tryz.ntmps272
    go_wp2_with (first
      | (go_at_call 267; refine (HQ.out _).mono ?_; rintro e w1 ⟨rfl, hb1⟩; obtain ⟨hc1, hf1⟩ := bcell hb1; have hz0 : w.heap.size < w1.heap.size := by { have := hb1.size; simp at this; omega }; have hz1 : w.heap.size + 1 < w1.heap.size := by { have := hb1.size; simp at this; omega }; have hz2 : w.heap.size + 2 < w1.heap.size := by { have := hb1.size; simp at this; omega })
      | (go_at_call 266; refine (sure_ok _ _).mono ?_; rintro e w3 ⟨rfl, hb3⟩; obtain ⟨hc3, hf3⟩ := bcell hb3; have hy2 : w.heap.size + 2 < w3.heap.size := by { have := hb3.size; omega }))
    exact bodyPost_ret (v := agV r1) (by simp [results, Tryz.results272, go_sem, hc1, hc3, hz0, hz1, hz2, hy2]) rfl ⟨rfl, vbox3_set w _ _ _ hb1 hb3 _ _ _ _ _⟩
  · have HB := Lib.hid (sure_bad r1 r2 h0)
    have H0 := Lib.hid h0
    clear h0
    go_enter Tryz.func272, Tryz.ntmps272
    go_wp2_with (first
      | (go_at_call 267; refine (HQ.out _).mono ?_; rintro e w1 ⟨rfl, hb1⟩)
      | (go_at_call 266; refine (HB.out _).mono ?_; rintro e w3 ⟨rfl, hb3⟩))
    exact ⟨rfl, (if_neg H0.out).symm, (vbox3 w _ _ _).trans ((hb1.mono (by simp; omega)).trans (hb3.mono (by have := hb1.size; simp at this; omega)))⟩
end Go.Proofs.YtkahhoefbphllaaGreat

/- Layer 5: what a part tells, by the program. (Made by gen/gentell.py.) -/
namespace Go.Proofs.YtkahhoefbphllaaGreat
open Go.RowKit
set_option linter.unusedVariables false
set_option linter.unusedSimpArgs false
set_option maxRecDepth 20000

theorem alloc1 (W : World) (o : Obj) : Below W.heap.size W (W.alloc o) := (Below.refl _ _).alloc (Nat.le_refl _) o
/-- a reckoner -/
abbrev agR (FA : Option Addr) (fn FC : Nat) (VA : Option Addr) (vn VC : Nat) : Value := .agg #[.slice FA fn FC, .slice VA vn VC]
/-- the world behind tell's boxes -/
abbrev WTell (w : World) (FA : Option Addr) (fn FC : Nat) (VA : Option Addr) (vn VC : Nat) (op : Int) (A : Option Addr) (n c : Nat) (nm : ByteArray) (v : Vl) : World :=
  ((w.alloc (.cells #[.slice FA fn FC, .slice VA vn VC] 248)).alloc (bxX op A n c nm v)).alloc (.cells #[.int .i64 0, .int .i64 0, .bool false, .string { data := #[] }, .float .f64 0] 55)
/-- what is kept of them -/
def TB (w : World) (FA : Option Addr) (fn FC : Nat) (VA : Option Addr) (vn VC : Nat) (op : Int) (A : Option Addr) (n c : Nat) (nm : ByteArray) (v : Vl) (W : World) : Prop :=
  Below w.heap.size w W ∧ w.heap.size + 3 ≤ W.heap.size ∧ W.cell? ⟨w.heap.size, 0, none⟩ = some (.slice FA fn FC) ∧ W.cell? ⟨w.heap.size, 1, none⟩ = some (.slice VA vn VC) ∧ CellsX W (w.heap.size + 1) op A n c nm v ∧
  (∃ cs, W.heap[w.heap.size + 2]? = some (.cells cs 55 (0, 0)) ∧ cs.size = 5)
theorem TB_new (w : World) (FA : Option Addr) (fn FC : Nat) (VA : Option Addr) (vn VC : Nat) (op : Int) (A : Option Addr) (n c : Nat) (nm : ByteArray) (v : Vl) : TB w FA fn FC VA vn VC op A n c nm v (WTell w FA fn FC VA vn VC op A n c nm v) := by
  have h1 := heap_alloc_new w (.cells #[.slice FA fn FC, .slice VA vn VC] 248)
  have hb1 : Below (w.heap.size + 1) (w.alloc (.cells #[.slice FA fn FC, .slice VA vn VC] 248)) (WTell w FA fn FC VA vn VC op A n c nm v) := ((Below.refl _ _).alloc (by simp) _).alloc (by simp) _
  have h2 := Kid_new (w.alloc (.cells #[.slice FA fn FC, .slice VA vn VC] 248)) op A n c nm v
  have hs : (w.alloc (.cells #[.slice FA fn FC, .slice VA vn VC] 248)).heap.size = w.heap.size + 1 := by simp
  rw [hs] at h2
  have h3 := heap_alloc_new ((w.alloc (.cells #[.slice FA fn FC, .slice VA vn VC] 248)).alloc (bxX op A n c nm v)) (.cells #[.int .i64 0, .int .i64 0, .bool false, .string { data := #[] }, .float .f64 0] 55)
  have hs2 : ((w.alloc (.cells #[.slice FA fn FC, .slice VA vn VC] 248)).alloc (bxX op A n c nm v)).heap.size = w.heap.size + 2 := by simp
  rw [hs2] at h3
  refine ⟨vbox3 w _ _ _, by simp, ?_, ?_, h2.below ((Below.refl _ _).alloc (Nat.le_refl _) _), _, h3, rfl⟩
  · exact keepc hb1 (by omega) ((cell_of_row _ _ 0 _ _ (0, 0) h1).trans rfl)
  · exact keepc hb1 (by omega) ((cell_of_row _ _ 1 _ _ (0, 0) h1).trans rfl)
theorem TB.below {w : World} {FA : Option Addr} {fn FC : Nat} {VA : Option Addr} {vn VC : Nat} {op : Int} {A : Option Addr} {n c : Nat} {nm : ByteArray} {v : Vl} {W W' : World} (h : TB w FA fn FC VA vn VC op A n c nm v W) (hb : Below W.heap.size W W') : TB w FA fn FC VA vn VC op A n c nm v W' := by
  obtain ⟨h0, h1, h2, h3, h4, cs, h5, h6⟩ := h
  exact ⟨h0.trans (hb.mono h0.size), Nat.le_trans h1 hb.size, keepc hb (by omega) h2, keepc hb (by omega) h3, h4.below hb, cs, (hb.block _ (by omega)).trans h5, h6⟩
theorem TB.below3 {w : World} {FA : Option Addr} {fn FC : Nat} {VA : Option Addr} {vn VC : Nat} {op : Int} {A : Option Addr} {n c : Nat} {nm : ByteArray} {v : Vl} {W W' : World} (h : TB w FA fn FC VA vn VC op A n c nm v W) (hb : Below (w.heap.size + 3) W W') : TB w FA fn FC VA vn VC op A n c nm v W' := by
  obtain ⟨h0, h1, h2, h3, h4, cs, h5, h6⟩ := h
  refine ⟨h0.trans (hb.mono (by omega)), Nat.le_trans h1 hb.size, keepc hb (by omega) h2, keepc hb (by omega) h3, ?_, cs, (hb.block _ (by omega)).trans h5, h6⟩
  exact ⟨keepc hb (by omega) h4.1, keepc hb (by omega) h4.2.1, keepc hb (by omega) h4.2.2.1, keepc hb (by omega) h4.2.2.2.1, keepc hb (by omega) h4.2.2.2.2.1, keepc hb (by omega) h4.2.2.2.2.2.1, keepc hb (by omega) h4.2.2.2.2.2.2.1, keepc hb (by omega) h4.2.2.2.2.2.2.2⟩
/-- the answer's block -/
theorem TB.out {w : World} {FA : Option Addr} {fn FC : Nat} {VA : Option Addr} {vn VC : Nat} {op : Int} {A : Option Addr} {n c : Nat} {nm : ByteArray} {v : Vl} {W : World} (h : TB w FA fn FC VA vn VC op A n c nm v W) :
    ∃ u0 u1 u2 u3 u4, W.cell? ⟨w.heap.size + 1 + 1, 0, none⟩ = some u0 ∧ W.cell? ⟨w.heap.size + 1 + 1, 1, none⟩ = some u1 ∧ W.cell? ⟨w.heap.size + 1 + 1, 2, none⟩ = some u2 ∧ W.cell? ⟨w.heap.size + 1 + 1, 3, none⟩ = some u3 ∧ W.cell? ⟨w.heap.size + 1 + 1, 4, none⟩ = some u4 ∧ (∀ j, W.frozen? ⟨w.heap.size + 1 + 1, j, none⟩ = false) := by
  obtain ⟨h0, h1, h2, h3, h4, cs, h5, h6⟩ := h
  have hat : ∀ (j : Nat) (hj : j < 5), W.cell? ⟨w.heap.size + 1 + 1, j, none⟩ = some (cs[j]'(by omega)) := fun j hj => by
    have := cell_of_row W (w.heap.size + 2) j _ _ (0, 0) h5
    rw [this, Array.getElem?_eq_getElem (by omega)]
  exact ⟨_, _, _, _, _, hat 0 (by omega), hat 1 (by omega), hat 2 (by omega), hat 3 (by omega), hat 4 (by omega), fun j => by unfold World.frozen?; have h7 : W.heap[w.heap.size + 1 + 1]? = some (.cells cs 55 (0, 0)) := h5; simp only [h7]; simp⟩
theorem TB.done {w : World} {FA : Option Addr} {fn FC : Nat} {VA : Option Addr} {vn VC : Nat} {op : Int} {A : Option Addr} {n c : Nat} {nm : ByteArray} {v : Vl} {W : World} (h : TB w FA fn FC VA vn VC op A n c nm v W) (u0 u1 u2 u3 u4 : Value) :
    Below w.heap.size w (((((W.setCell ⟨w.heap.size + 2, 0, none⟩ u0).setCell ⟨w.heap.size + 2, 1, none⟩ u1).setCell ⟨w.heap.size + 2, 2, none⟩ u2).setCell ⟨w.heap.size + 2, 3, none⟩ u3).setCell ⟨w.heap.size + 2, 4, none⟩ u4) := below_set5 h.1 (by omega) _ _ _ _ _
/-- the same without the answer -/
def TC (w : World) (FA : Option Addr) (fn FC : Nat) (VA : Option Addr) (vn VC : Nat) (op : Int) (A : Option Addr) (n c : Nat) (nm : ByteArray) (v : Vl) (W : World) : Prop :=
  Below w.heap.size w W ∧ w.heap.size + 2 ≤ W.heap.size ∧ W.cell? ⟨w.heap.size, 0, none⟩ = some (.slice FA fn FC) ∧ W.cell? ⟨w.heap.size, 1, none⟩ = some (.slice VA vn VC) ∧ CellsX W (w.heap.size + 1) op A n c nm v
theorem TB.tc {w : World} {FA : Option Addr} {fn FC : Nat} {VA : Option Addr} {vn VC : Nat} {op : Int} {A : Option Addr} {n c : Nat} {nm : ByteArray} {v : Vl} {W : World} (h : TB w FA fn FC VA vn VC op A n c nm v W) : TC w FA fn FC VA vn VC op A n c nm v W := by
  obtain ⟨h0, h1, h2, h3, h4, h5⟩ := h
  exact ⟨h0, by omega, h2, h3, h4⟩
theorem TC.below2 {w : World} {FA : Option Addr} {fn FC : Nat} {VA : Option Addr} {vn VC : Nat} {op : Int} {A : Option Addr} {n c : Nat} {nm : ByteArray} {v : Vl} {W W' : World} (h : TC w FA fn FC VA vn VC op A n c nm v W) (hb : Below (w.heap.size + 2) W W') : TC w FA fn FC VA vn VC op A n c nm v W' := by
  obtain ⟨h0, h1, h2, h3, h4⟩ := h
  refine ⟨h0.trans (hb.mono (by omega)), Nat.le_trans h1 hb.size, keepc hb (by omega) h2, keepc hb (by omega) h3, ?_⟩
  exact ⟨keepc hb (by omega) h4.1, keepc hb (by omega) h4.2.1, keepc hb (by omega) h4.2.2.1, keepc hb (by omega) h4.2.2.2.1, keepc hb (by omega) h4.2.2.2.2.1, keepc hb (by omega) h4.2.2.2.2.2.1, keepc hb (by omega) h4.2.2.2.2.2.2.1, keepc hb (by omega) h4.2.2.2.2.2.2.2⟩
theorem bx_off {W : World} {b g : Nat} {r : Vl} (h : Bx W b r) (hne : b ≠ g) (u0 u1 u2 u3 u4 : Value) : Bx (((((W.setCell ⟨g, 0, none⟩ u0).setCell ⟨g, 1, none⟩ u1).setCell ⟨g, 2, none⟩ u2).setCell ⟨g, 3, none⟩ u3).setCell ⟨g, 4, none⟩ u4) b r := by
  have hk : ∀ (W : World) (o j : Nat) (u : Value), (W.setCell ⟨g, j, none⟩ u).cell? ⟨b, o, none⟩ = W.cell? ⟨b, o, none⟩ := fun W o j u => World.cell?_setCell_other W (a := ⟨g, j, none⟩) (b := ⟨b, o, none⟩) (v := u) (by intro e; injection e with e _ _; exact hne e.symm)
  unfold Bx
  simp only [hk]
  exact h
/-- what is held while a later kid is reckoned -/
abbrev THeldK (w : World) (FA : Option Addr) (fn FC : Nat) (VA : Option Addr) (vn VC : Nat) (op : Int) (ad : Addr) (n c : Nat) (q : Addr) (p0 : Int) (A0 : Option Addr) (n0 c0 : Nat) (m0 : ByteArray) (y0 : Vl) (W : World) : Prop :=
  W.cell? ⟨w.heap.size, 0, none⟩ = some (.slice FA fn FC) ∧ W.cell? ⟨w.heap.size, 1, none⟩ = some (.slice VA vn VC) ∧ W.cell? ⟨w.heap.size + 1, 0, none⟩ = some (.int .i64 op) ∧ W.cell? ⟨w.heap.size + 1, 1, none⟩ = some (.slice (some ad) n c) ∧
  W.cell? q = some (.int .i64 p0) ∧ W.cell? ⟨q.block, q.off + 1, none⟩ = some (.slice A0 n0 c0) ∧ W.cell? ⟨q.block, q.off + 2, none⟩ = some (.string m0) ∧ W.cell? ⟨q.block, q.off + 3, none⟩ = some (.int .i64 y0.k) ∧ W.cell? ⟨q.block, q.off + 4, none⟩ = some (.int .i64 y0.i) ∧ W.cell? ⟨q.block, q.off + 5, none⟩ = some (.bool y0.b) ∧ W.cell? ⟨q.block, q.off + 6, none⟩ = some (.string y0.s) ∧ W.cell? ⟨q.block, q.off + 7, none⟩ = some (.float .f64 y0.n)
/-- what is held while the first kid is reckoned -/
abbrev THeld (w : World) (FA : Option Addr) (fn FC : Nat) (VA : Option Addr) (vn VC : Nat) (ad : Addr) (n c : Nat) (p0 : Int) (A0 : Option Addr) (n0 c0 : Nat) (m0 : ByteArray) (y0 : Vl) (W : World) : Prop :=
  W.cell? ⟨w.heap.size, 0, none⟩ = some (.slice FA fn FC) ∧ W.cell? ⟨w.heap.size, 1, none⟩ = some (.slice VA vn VC) ∧ W.cell? ⟨w.heap.size + 1, 1, none⟩ = some (.slice (some ad) n c) ∧
  W.cell? ad = some (.int .i64 p0) ∧ W.cell? ⟨ad.block, ad.off + 1, none⟩ = some (.slice A0 n0 c0) ∧ W.cell? ⟨ad.block, ad.off + 2, none⟩ = some (.string m0) ∧ W.cell? ⟨ad.block, ad.off + 3, none⟩ = some (.int .i64 y0.k) ∧ W.cell? ⟨ad.block, ad.off + 4, none⟩ = some (.int .i64 y0.i) ∧ W.cell? ⟨ad.block, ad.off + 5, none⟩ = some (.bool y0.b) ∧ W.cell? ⟨ad.block, ad.off + 6, none⟩ = some (.string y0.s) ∧ W.cell? ⟨ad.block, ad.off + 7, none⟩ = some (.float .f64 y0.n)
theorem newcells {wb wA : World} (hb : Below ((wb.alloc (.cells #[.int .i64 0, .int .i64 0, .bool false, .string { data := #[] }, .float .f64 0] 55)).drew).heap.size (wb.alloc (.cells #[.int .i64 0, .int .i64 0, .bool false, .string { data := #[] }, .float .f64 0] 55)).drew wA) :
    wA.cell? ⟨wb.heap.size, 0, none⟩ = some (.int .i64 0) ∧ wA.cell? ⟨wb.heap.size, 1, none⟩ = some (.int .i64 0) ∧ wA.cell? ⟨wb.heap.size, 2, none⟩ = some (.bool false) ∧ wA.cell? ⟨wb.heap.size, 3, none⟩ = some (.string { data := #[] }) ∧ wA.cell? ⟨wb.heap.size, 4, none⟩ = some (.float .f64 0) ∧ (∀ j, wA.frozen? ⟨wb.heap.size, j, none⟩ = false) := by
  have h := heap_alloc_new wb (.cells #[.int .i64 0, .int .i64 0, .bool false, .string { data := #[] }, .float .f64 0] 55)
  have h2 : wA.heap[wb.heap.size]? = some (.cells #[.int .i64 0, .int .i64 0, .bool false, .string { data := #[] }, .float .f64 0] 55 (0, 0)) := (hb.block wb.heap.size (by show wb.heap.size < (wb.alloc _).heap.size; simp)).trans h
  exact ⟨(cell_of_row _ _ 0 _ _ (0, 0) h2).trans rfl, (cell_of_row _ _ 1 _ _ (0, 0) h2).trans rfl, (cell_of_row _ _ 2 _ _ (0, 0) h2).trans rfl, (cell_of_row _ _ 3 _ _ (0, 0) h2).trans rfl, (cell_of_row _ _ 4 _ _ (0, 0) h2).trans rfl, fun j => by unfold World.frozen?; simp only [h2]; simp⟩
theorem bx_set {W : World} {b : Nat} {u0 u1 u2 u3 u4 : Value} {r : Vl} (h0 : W.cell? ⟨b, 0, none⟩ = some u0) (h1 : W.cell? ⟨b, 1, none⟩ = some u1) (h2 : W.cell? ⟨b, 2, none⟩ = some u2) (h3 : W.cell? ⟨b, 3, none⟩ = some u3) (h4 : W.cell? ⟨b, 4, none⟩ = some u4) :
    Bx (((((W.setCell ⟨b, 0, none⟩ (.int .i64 r.k)).setCell ⟨b, 1, none⟩ (.int .i64 r.i)).setCell ⟨b, 2, none⟩ (.bool r.b)).setCell ⟨b, 3, none⟩ (.string r.s)).setCell ⟨b, 4, none⟩ (.float .f64 r.n)) b r := by
  refine ⟨?_, ?_, ?_, ?_, ?_⟩ <;> simp [go_sem, h0, h1, h2, h3, h4]
set_option maxHeartbeats 600000 in
theorem tell_3 (FA : Option Addr) (fn FC : Nat) (VA : Option Addr) (vn VC : Nat) (ad : Addr) (n c : Nat) (nm : ByteArray) (v : Vl) (w : World) (A0 : Option Addr) (n0 c0 : Nat) (m0 : ByteArray) (y0 : Vl) (p0 : Int) (R0 : Vl × Int) (hq0 : ∀ W, Below w.heap.size w W → Kid W ad p0 A0 n0 c0 m0 y0) (h0 : ∀ W, Below w.heap.size w W → Calls Tryz.prog 257 #[agR FA fn FC VA vn VC, agX p0 A0 n0 c0 m0 y0] W (TellP R0 W)) (hv0 : R0.2 = 0 → okV R0.1) (hn : 0 < n) (hf : R0.2 = 0 → ∀ W, Calls Tryz.prog 269 #[agV R0.1] W (VMk (pairVE (negV R0.1).1 (negV R0.1).2) W)) :
    Calls Tryz.prog 257 #[agR FA fn FC VA vn VC, agX 3 (some ad) n c nm v] w (TellP (if R0.2 ≠ 0 then (vZero, R0.2) else negV R0.1) w) := by
  have hsf := fun (w : World) (a : Addr) (m : Mode) (b : Nat) => run_store Tryz.prog w a (.float .f64 b) m rfl
  have hi : (0 : Int) < (n : Int) := by omega
  have hn0 : 0 < n := by omega
  obtain ⟨r1, r2⟩ := R0
  have H0 := Lib.hid h0
  clear h0
  by_cases hz : r2 = 0
  · subst hz
    rw [if_neg (fun h => h rfl)]
    have h0 := fun W hb => (H0.out W hb).mono (fun e w' h => (⟨h.1.trans (if_pos rfl), h.2⟩ : e = .returned (agV r1) ∧ Below W.heap.size W w'))
    clear H0
    have H0 := Lib.hid h0
    have hf := hf rfl
    generalize hq : negV r1 = q
    have hq2 : negV (r1, (0 : Int)).1 = q := hq
    rw [hq2] at hf
    have HF := Lib.hid hf
    clear hf hq hq2 h0 hv0
    have htb : TB w FA fn FC VA vn VC 3 (some ad) n c nm v (((w.alloc (.cells #[.slice FA fn FC, .slice VA vn VC] 248)).alloc (.cells #[.int .i64 3, .slice (some ad) n c, .string nm, .int .i64 v.k, .int .i64 v.i, .bool v.b, .string v.s, .float .f64 v.n] 75)).alloc (.cells #[.int .i64 0, .int .i64 0, .bool false, .string { data := #[] }, .float .f64 0] 55)) := TB_new w FA fn FC VA vn VC 3 (some ad) n c nm v
    have HHELD := Lib.hid (fun W (hb : TB w FA fn FC VA vn VC 3 (some ad) n c nm v W) => (show THeld w FA fn FC VA vn VC ad n c p0 A0 n0 c0 m0 y0 W from let q := hq0 W hb.1; ⟨hb.2.2.1, hb.2.2.2.1, hb.2.2.2.2.1.2.1, q.1, q.2.1, q.2.2.1, q.2.2.2.1, q.2.2.2.2.1, q.2.2.2.2.2.1, q.2.2.2.2.2.2.1, q.2.2.2.2.2.2.2⟩))
    clear hq0
    have HKP := Lib.hid (fun (W W' : World) (h : TB w FA fn FC VA vn VC 3 (some ad) n c nm v W ∧ THeld w FA fn FC VA vn VC ad n c p0 A0 n0 c0 m0 y0 W) (hb : Below W.heap.size W W') => And.intro (h.1.below hb) (HHELD.out _ (h.1.below hb)))
    have HKS := Lib.hid (fun (W : World) (b : Nat) (u0 u1 u2 u3 u4 : Value) (hge : w.heap.size + 3 ≤ b) (h : TB w FA fn FC VA vn VC 3 (some ad) n c nm v W ∧ THeld w FA fn FC VA vn VC ad n c p0 A0 n0 c0 m0 y0 W) => let hb := below_set5 (Below.refl (w.heap.size + 3) W) hge u0 u1 u2 u3 u4; And.intro (h.1.below3 hb) (HHELD.out _ (h.1.below3 hb)))
    go_enter Tryz.func257, Tryz.ntmps257
    go_upto_region 6 with fail
    generalize ((w.alloc (.cells #[.slice FA fn FC, .slice VA vn VC] 248)).alloc (.cells #[.int .i64 3, .slice (some ad) n c, .string nm, .int .i64 v.k, .int .i64 v.i, .bool v.b, .string v.s, .float .f64 v.n] 75)).alloc (.cells #[.int .i64 0, .int .i64 0, .bool false, .string { data := #[] }, .float .f64 0] 55) = wb at *
    go_cut [5] from 23 to 28 (fun s5 wx => ∃ b, s5 = .pointer (some ⟨b, 0, none⟩) ∧ w.heap.size + 3 ≤ b ∧ TB w FA fn FC VA vn VC 3 (some ad) n c nm v wx ∧ Bx wx b r1)
    case first =>
      have hS0 : TB w FA fn FC VA vn VC 3 (some ad) n c nm v wb.drew ∧ THeld w FA fn FC VA vn VC ad n c p0 A0 n0 c0 m0 y0 wb.drew := ⟨htb.below (Below.refl _ _).drew, HHELD.out _ (htb.below (Below.refl _ _).drew)⟩
      refine wp_region_held_drew (S := (fun W => TB w FA fn FC VA vn VC 3 (some ad) n c nm v W ∧ THeld w FA fn FC VA vn VC ad n c p0 A0 n0 c0 m0 y0 W)) (by kernel_rfl) (hS0) (fun hHeld => ?_)
      refine wpAnyH_take (i := 0) (oi := ?oi1) (v := ?v1) ?hi1 (by kernel_rfl) (by kernel_rfl) (by kernel_rfl) ?hQ1 (Or.inl ⟨?hw1, ?hy1⟩) (by assumption) ?rest1
      case hi1 => (simp only [gA, gB, gC]; rfl)
      case hQ1 => exact fun _ _ _ h => h
      case hw1 => rfl
      case hy1 => (intro w hSw; (try dsimp only at hSw); go_simp; try with_reducible rfl)
      (try simp only [Act.put, sA, sB, sC])
      refine wpAnyH_take (i := 1) (oi := ?oi2) (v := ?v2) ?hi2 (by kernel_rfl) (by kernel_rfl) (by kernel_rfl) ?hQ2 (Or.inl ⟨?hw2, ?hy2⟩) (by assumption) ?rest2
      case hi2 => (simp only [gA, gB, gC]; rfl)
      case hQ2 => exact fun _ _ _ h => h
      case hw2 => rfl
      case hy2 => (intro w hSw; (try dsimp only at hSw); go_simp; try with_reducible rfl)
      (try simp only [Act.put, sA, sB, sC])
      refine wpAnyH_take (i := 2) (oi := ?oi3) (v := ?v3) ?hi3 (by kernel_rfl) (by kernel_rfl) (by kernel_rfl) ?hQ3 (Or.inl ⟨?hw3, ?hy3⟩) (by assumption) ?rest3
      case hi3 => (simp only [gA, gB, gC]; rfl)
      case hQ3 => exact fun _ _ _ h => h
      case hw3 => rfl
      case hy3 => (intro w hSw; (try dsimp only at hSw); go_simp; try with_reducible rfl)
      (try simp only [Act.put, sA, sB, sC])
      refine wpAnyH_take (i := 3) (oi := ?oi4) (v := ?v4) ?hi4 (by kernel_rfl) (by kernel_rfl) (by kernel_rfl) ?hQ4 (Or.inl ⟨?hw4, ?hy4⟩) (by assumption) ?rest4
      case hi4 => (simp only [gA, gB, gC]; rfl)
      case hQ4 => exact fun _ _ _ h => h
      case hw4 => rfl
      case hy4 => (intro w hSw; (try dsimp only at hSw); go_simp; try with_reducible rfl)
      (try simp only [Act.put, sA, sB, sC])
      refine wpAnyH_take (i := 4) (oi := ?oi5) (v := ?v5) ?hi5 (by kernel_rfl) (by kernel_rfl) (by kernel_rfl) ?hQ5 (Or.inl ⟨?hw5, ?hy5⟩) (by assumption) ?rest5
      case hi5 => (simp only [gA, gB, gC]; rfl)
      case hQ5 => exact fun _ _ _ h => h
      case hw5 => rfl
      case hy5 => (intro w hSw; (try dsimp only at hSw); go_simp; try with_reducible rfl)
      (try simp only [Act.put, sA, sB, sC])
      refine wpAnyH_ready (rs := [5, 6]) (by kernel_rfl) (by simp) ?_
      refine AllReadyH.cons (o := ?o6) ?ho6 (fun K hK => ?st6) (AllReadyH.cons (o := ?o7) ?ho7 (fun K hK => ?st7) AllReadyH.nil)
      case ho6 => (simp only [gA, gB, gC]; rfl)
      case ho7 => (simp only [gA, gB, gC]; rfl)
      · go_simp
        refine (H0.out _ (And.left (And.left hHeld))).mono ?_; rintro e wA ⟨rfl, hbA⟩; have hSA := HKP.out _ _ hHeld hbA
        refine hK.out _ _ ?_ (fun hHeld => ?_)
        · (try dsimp only); exact hSA
        clear hK K
        (try simp only [Act.put, sA, sB, sC])
        refine wpAnyH_ready (rs := [6]) (by kernel_rfl) (by simp) ?_
        refine AllReadyH.cons (o := ?o8) ?ho8 (fun K hK => ?st8) AllReadyH.nil
        case ho8 => (simp only [gA, gB, gC]; rfl)
        go_simp
        refine hK.out _ _ ?_ (fun hHeld => ?_)
        · (try dsimp only); exact HKP.out _ _ hSA (alloc1 _ _)
        clear hK K
        (try simp only [Act.put, sA, sB, sC])
        refine wpAnyH_ready (rs := [7]) (by kernel_rfl) (by simp) ?_
        refine AllReadyH.cons (o := ?o9) ?ho9 (fun K hK => ?st9) AllReadyH.nil
        case ho9 => (simp only [gA, gB, gC]; rfl)
        go_simp
        refine hK.out _ _ ?_ (fun hHeld => ?_)
        · (try dsimp only); exact HKP.out _ _ hSA (alloc1 _ _)
        clear hK K
        (try simp only [Act.put, sA, sB, sC])
        refine wpAnyH_done (by kernel_rfl) ?_ _
        go_wp2_with fail
        go_meet
        exact ⟨_, rfl, hSA.1.2.1, hHeld.1, Bx.new _ r1⟩
      · go_simp
        refine hK.out _ _ ?_ (fun hHeld => ?_)
        · (try dsimp only); exact HKP.out _ _ hS0 (alloc1 _ _)
        clear hK K
        (try simp only [Act.put, sA, sB, sC])
        refine wpAnyH_ready (rs := [5]) (by kernel_rfl) (by simp) ?_
        refine AllReadyH.cons (o := ?o10) ?ho10 (fun K hK => ?st10) AllReadyH.nil
        case ho10 => (simp only [gA, gB, gC]; rfl)
        go_simp
        refine (H0.out _ (And.left (And.left hHeld))).mono ?_; rintro e wA ⟨rfl, hbA⟩; have hSA := HKP.out _ _ hHeld hbA; obtain ⟨e0, e1, e2, e3, e4, ef⟩ := newcells hbA
        refine hK.out _ _ ?_ (fun hHeld => ?_)
        · (try dsimp only); exact hSA
        clear hK K
        (try simp only [Act.put, sA, sB, sC])
        refine wpAnyH_ready (rs := [7]) (by kernel_rfl) (by simp) ?_
        refine AllReadyH.cons (o := ?o11) ?ho11 (fun K hK => ?st11) AllReadyH.nil
        case ho11 => (simp only [gA, gB, gC]; rfl)
        go_simp
        refine hK.out _ _ ?_ (fun hHeld => ?_)
        · (try dsimp only); exact HKS.out _ _ _ _ _ _ _ htb.2.1 hSA
        clear hK K
        (try simp only [Act.put, sA, sB, sC])
        refine wpAnyH_done (by kernel_rfl) ?_ _
        go_wp2_with fail
        go_meet
        exact ⟨_, rfl, htb.2.1, hHeld.1, bx_set e0 e1 e2 e3 e4⟩
    case rest =>
      clear htb HHELD HKP HKS
      obtain ⟨b, rfl, hbge, hTB, hx0, hx1, hx2, hx3, hx4⟩ := hcut
      obtain ⟨d0, d1, d2, d3, d4, d5, d6, d7⟩ := hTB.2.2.2.2.1
      have g0 := hTB.2.2.1
      have g1 := hTB.2.2.2.1
      obtain ⟨q1, q2⟩ := q
      by_cases hf : q2 = 0
      · subst hf
        go_wp2_with (first
          | (go_at_call 269; refine (HF.out _).mono ?_; rintro e w2 ⟨rfl, hb2⟩; have hT2 := hTB.below hb2)
          | (go_at_call 266; refine (sure_ok _ _).mono ?_; rintro e w3 ⟨rfl, hb3⟩; have hT3 := hT2.below hb3; obtain ⟨ou0, ou1, ou2, ou3, ou4, ov0, ov1, ov2, ov3, ov4, ovf⟩ := TB.out hT3))
        exact bodyPost_ret (v := agV q1) (by simp [results, Tryz.results257, go_sem, ov0, ov1, ov2, ov3, ov4]) rfl ⟨rfl, TB.done hT3 _ _ _ _ _⟩
      · have HB := Lib.hid (sure_bad q1 q2 hf)
        have HNE := Lib.hid hf
        clear hf
        go_wp2_with (first
          | (go_at_call 269; refine (HF.out _).mono ?_; rintro e w2 ⟨rfl, hb2⟩; have hT2 := hTB.below hb2)
          | (go_at_call 266; refine (HB.out _).mono ?_; rintro e w3 ⟨rfl, hb3⟩))
        exact ⟨rfl, (if_neg HNE.out).symm, (hT2.1.trans (hb3.mono hT2.1.size))⟩
  · have h0 := fun W hb => (H0.out W hb).mono (fun e w' h => (⟨h.1.trans (if_neg hz), h.2⟩ : e = .panicked (PV r2) ∧ Below W.heap.size W w'))
    clear H0
    have H0 := Lib.hid h0
    have HZ := Lib.hid hz
    rw [if_pos hz]
    clear h0 hv0 hz
    have htb : TB w FA fn FC VA vn VC 3 (some ad) n c nm v (((w.alloc (.cells #[.slice FA fn FC, .slice VA vn VC] 248)).alloc (.cells #[.int .i64 3, .slice (some ad) n c, .string nm, .int .i64 v.k, .int .i64 v.i, .bool v.b, .string v.s, .float .f64 v.n] 75)).alloc (.cells #[.int .i64 0, .int .i64 0, .bool false, .string { data := #[] }, .float .f64 0] 55)) := TB_new w FA fn FC VA vn VC 3 (some ad) n c nm v
    have HHELD := Lib.hid (fun W (hb : TB w FA fn FC VA vn VC 3 (some ad) n c nm v W) => (show THeld w FA fn FC VA vn VC ad n c p0 A0 n0 c0 m0 y0 W from let q := hq0 W hb.1; ⟨hb.2.2.1, hb.2.2.2.1, hb.2.2.2.2.1.2.1, q.1, q.2.1, q.2.2.1, q.2.2.2.1, q.2.2.2.2.1, q.2.2.2.2.2.1, q.2.2.2.2.2.2.1, q.2.2.2.2.2.2.2⟩))
    clear hq0
    have HKP := Lib.hid (fun (W W' : World) (h : TB w FA fn FC VA vn VC 3 (some ad) n c nm v W ∧ THeld w FA fn FC VA vn VC ad n c p0 A0 n0 c0 m0 y0 W) (hb : Below W.heap.size W W') => And.intro (h.1.below hb) (HHELD.out _ (h.1.below hb)))
    have HKS := Lib.hid (fun (W : World) (b : Nat) (u0 u1 u2 u3 u4 : Value) (hge : w.heap.size + 3 ≤ b) (h : TB w FA fn FC VA vn VC 3 (some ad) n c nm v W ∧ THeld w FA fn FC VA vn VC ad n c p0 A0 n0 c0 m0 y0 W) => let hb := below_set5 (Below.refl (w.heap.size + 3) W) hge u0 u1 u2 u3 u4; And.intro (h.1.below3 hb) (HHELD.out _ (h.1.below3 hb)))
    go_enter Tryz.func257, Tryz.ntmps257
    go_upto_region 6 with fail
    generalize ((w.alloc (.cells #[.slice FA fn FC, .slice VA vn VC] 248)).alloc (.cells #[.int .i64 3, .slice (some ad) n c, .string nm, .int .i64 v.k, .int .i64 v.i, .bool v.b, .string v.s, .float .f64 v.n] 75)).alloc (.cells #[.int .i64 0, .int .i64 0, .bool false, .string { data := #[] }, .float .f64 0] 55) = wb at *
    have hS0 : TB w FA fn FC VA vn VC 3 (some ad) n c nm v wb.drew ∧ THeld w FA fn FC VA vn VC ad n c p0 A0 n0 c0 m0 y0 wb.drew := ⟨htb.below (Below.refl _ _).drew, HHELD.out _ (htb.below (Below.refl _ _).drew)⟩
    refine wp_region_held_drew (S := (fun W => TB w FA fn FC VA vn VC 3 (some ad) n c nm v W ∧ THeld w FA fn FC VA vn VC ad n c p0 A0 n0 c0 m0 y0 W)) (by kernel_rfl) (hS0) (fun hHeld => ?_)
    refine wpAnyH_take (i := 0) (oi := ?oi12) (v := ?v12) ?hi12 (by kernel_rfl) (by kernel_rfl) (by kernel_rfl) ?hQ12 (Or.inl ⟨?hw12, ?hy12⟩) (by assumption) ?rest12
    case hi12 => (simp only [gA, gB, gC]; rfl)
    case hQ12 => exact fun _ _ _ h => h
    case hw12 => rfl
    case hy12 => (intro w hSw; (try dsimp only at hSw); go_simp; try with_reducible rfl)
    (try simp only [Act.put, sA, sB, sC])
    refine wpAnyH_take (i := 1) (oi := ?oi13) (v := ?v13) ?hi13 (by kernel_rfl) (by kernel_rfl) (by kernel_rfl) ?hQ13 (Or.inl ⟨?hw13, ?hy13⟩) (by assumption) ?rest13
    case hi13 => (simp only [gA, gB, gC]; rfl)
    case hQ13 => exact fun _ _ _ h => h
    case hw13 => rfl
    case hy13 => (intro w hSw; (try dsimp only at hSw); go_simp; try with_reducible rfl)
    (try simp only [Act.put, sA, sB, sC])
    refine wpAnyH_take (i := 2) (oi := ?oi14) (v := ?v14) ?hi14 (by kernel_rfl) (by kernel_rfl) (by kernel_rfl) ?hQ14 (Or.inl ⟨?hw14, ?hy14⟩) (by assumption) ?rest14
    case hi14 => (simp only [gA, gB, gC]; rfl)
    case hQ14 => exact fun _ _ _ h => h
    case hw14 => rfl
    case hy14 => (intro w hSw; (try dsimp only at hSw); go_simp; try with_reducible rfl)
    (try simp only [Act.put, sA, sB, sC])
    refine wpAnyH_take (i := 3) (oi := ?oi15) (v := ?v15) ?hi15 (by kernel_rfl) (by kernel_rfl) (by kernel_rfl) ?hQ15 (Or.inl ⟨?hw15, ?hy15⟩) (by assumption) ?rest15
    case hi15 => (simp only [gA, gB, gC]; rfl)
    case hQ15 => exact fun _ _ _ h => h
    case hw15 => rfl
    case hy15 => (intro w hSw; (try dsimp only at hSw); go_simp; try with_reducible rfl)
    (try simp only [Act.put, sA, sB, sC])
    refine wpAnyH_take (i := 4) (oi := ?oi16) (v := ?v16) ?hi16 (by kernel_rfl) (by kernel_rfl) (by kernel_rfl) ?hQ16 (Or.inl ⟨?hw16, ?hy16⟩) (by assumption) ?rest16
    case hi16 => (simp only [gA, gB, gC]; rfl)
    case hQ16 => exact fun _ _ _ h => h
    case hw16 => rfl
    case hy16 => (intro w hSw; (try dsimp only at hSw); go_simp; try with_reducible rfl)
    (try simp only [Act.put, sA, sB, sC])
    refine wpAnyH_ready (rs := [5, 6]) (by kernel_rfl) (by simp) ?_
    refine AllReadyH.cons (o := ?o17) ?ho17 (fun K hK => ?st17) (AllReadyH.cons (o := ?o18) ?ho18 (fun K hK => ?st18) AllReadyH.nil)
    case ho17 => (simp only [gA, gB, gC]; rfl)
    case ho18 => (simp only [gA, gB, gC]; rfl)
    · go_simp
      refine (H0.out _ (And.left (And.left hHeld))).mono ?_; rintro e wA ⟨rfl, hbA⟩
      exact ⟨rfl, (if_neg HZ.out).symm, (And.left (And.left hHeld)).trans (hbA.mono (And.left (And.left hHeld)).size)⟩
    · go_simp
      refine hK.out _ _ ?_ (fun hHeld => ?_)
      · (try dsimp only); exact HKP.out _ _ hS0 (alloc1 _ _)
      clear hK K
      (try simp only [Act.put, sA, sB, sC])
      refine wpAnyH_ready (rs := [5]) (by kernel_rfl) (by simp) ?_
      refine AllReadyH.cons (o := ?o19) ?ho19 (fun K hK => ?st19) AllReadyH.nil
      case ho19 => (simp only [gA, gB, gC]; rfl)
      go_simp
      refine (H0.out _ (And.left (And.left hHeld))).mono ?_; rintro e wA ⟨rfl, hbA⟩
      exact ⟨rfl, (if_neg HZ.out).symm, (And.left (And.left hHeld)).trans (hbA.mono (And.left (And.left hHeld)).size)⟩
set_option maxHeartbeats 600000 in
theorem tell_16 (FA : Option Addr) (fn FC : Nat) (VA : Option Addr) (vn VC : Nat) (ad : Addr) (n c : Nat) (nm : ByteArray) (v : Vl) (w : World) (A0 : Option Addr) (n0 c0 : Nat) (m0 : ByteArray) (y0 : Vl) (p0 : Int) (R0 : Vl × Int) (hq0 : ∀ W, Below w.heap.size w W → Kid W ad p0 A0 n0 c0 m0 y0) (h0 : ∀ W, Below w.heap.size w W → Calls Tryz.prog 257 #[agR FA fn FC VA vn VC, agX p0 A0 n0 c0 m0 y0] W (TellP R0 W)) (hv0 : R0.2 = 0 → okV R0.1) (hn : 0 < n) (hf : R0.2 = 0 → ∀ W, Calls Tryz.prog 270 #[agV R0.1] W (VMk (pairVE (floatV R0.1).1 (floatV R0.1).2) W)) :
    Calls Tryz.prog 257 #[agR FA fn FC VA vn VC, agX 16 (some ad) n c nm v] w (TellP (if R0.2 ≠ 0 then (vZero, R0.2) else floatV R0.1) w) := by
  have hsf := fun (w : World) (a : Addr) (m : Mode) (b : Nat) => run_store Tryz.prog w a (.float .f64 b) m rfl
  have hi : (0 : Int) < (n : Int) := by omega
  have hn0 : 0 < n := by omega
  obtain ⟨r1, r2⟩ := R0
  have H0 := Lib.hid h0
  clear h0
  by_cases hz : r2 = 0
  · subst hz
    rw [if_neg (fun h => h rfl)]
    have h0 := fun W hb => (H0.out W hb).mono (fun e w' h => (⟨h.1.trans (if_pos rfl), h.2⟩ : e = .returned (agV r1) ∧ Below W.heap.size W w'))
    clear H0
    have H0 := Lib.hid h0
    have hf := hf rfl
    generalize hq : floatV r1 = q
    have hq2 : floatV (r1, (0 : Int)).1 = q := hq
    rw [hq2] at hf
    have HF := Lib.hid hf
    clear hf hq hq2 h0 hv0
    have htb : TB w FA fn FC VA vn VC 16 (some ad) n c nm v (((w.alloc (.cells #[.slice FA fn FC, .slice VA vn VC] 248)).alloc (.cells #[.int .i64 16, .slice (some ad) n c, .string nm, .int .i64 v.k, .int .i64 v.i, .bool v.b, .string v.s, .float .f64 v.n] 75)).alloc (.cells #[.int .i64 0, .int .i64 0, .bool false, .string { data := #[] }, .float .f64 0] 55)) := TB_new w FA fn FC VA vn VC 16 (some ad) n c nm v
    have HHELD := Lib.hid (fun W (hb : TB w FA fn FC VA vn VC 16 (some ad) n c nm v W) => (show THeld w FA fn FC VA vn VC ad n c p0 A0 n0 c0 m0 y0 W from let q := hq0 W hb.1; ⟨hb.2.2.1, hb.2.2.2.1, hb.2.2.2.2.1.2.1, q.1, q.2.1, q.2.2.1, q.2.2.2.1, q.2.2.2.2.1, q.2.2.2.2.2.1, q.2.2.2.2.2.2.1, q.2.2.2.2.2.2.2⟩))
    clear hq0
    have HKP := Lib.hid (fun (W W' : World) (h : TB w FA fn FC VA vn VC 16 (some ad) n c nm v W ∧ THeld w FA fn FC VA vn VC ad n c p0 A0 n0 c0 m0 y0 W) (hb : Below W.heap.size W W') => And.intro (h.1.below hb) (HHELD.out _ (h.1.below hb)))
    have HKS := Lib.hid (fun (W : World) (b : Nat) (u0 u1 u2 u3 u4 : Value) (hge : w.heap.size + 3 ≤ b) (h : TB w FA fn FC VA vn VC 16 (some ad) n c nm v W ∧ THeld w FA fn FC VA vn VC ad n c p0 A0 n0 c0 m0 y0 W) => let hb := below_set5 (Below.refl (w.heap.size + 3) W) hge u0 u1 u2 u3 u4; And.intro (h.1.below3 hb) (HHELD.out _ (h.1.below3 hb)))
    go_enter Tryz.func257, Tryz.ntmps257
    go_upto_region 6 with fail
    generalize ((w.alloc (.cells #[.slice FA fn FC, .slice VA vn VC] 248)).alloc (.cells #[.int .i64 16, .slice (some ad) n c, .string nm, .int .i64 v.k, .int .i64 v.i, .bool v.b, .string v.s, .float .f64 v.n] 75)).alloc (.cells #[.int .i64 0, .int .i64 0, .bool false, .string { data := #[] }, .float .f64 0] 55) = wb at *
    go_cut [5] from 23 to 28 (fun s5 wx => ∃ b, s5 = .pointer (some ⟨b, 0, none⟩) ∧ w.heap.size + 3 ≤ b ∧ TB w FA fn FC VA vn VC 16 (some ad) n c nm v wx ∧ Bx wx b r1)
    case first =>
      have hS0 : TB w FA fn FC VA vn VC 16 (some ad) n c nm v wb.drew ∧ THeld w FA fn FC VA vn VC ad n c p0 A0 n0 c0 m0 y0 wb.drew := ⟨htb.below (Below.refl _ _).drew, HHELD.out _ (htb.below (Below.refl _ _).drew)⟩
      refine wp_region_held_drew (S := (fun W => TB w FA fn FC VA vn VC 16 (some ad) n c nm v W ∧ THeld w FA fn FC VA vn VC ad n c p0 A0 n0 c0 m0 y0 W)) (by kernel_rfl) (hS0) (fun hHeld => ?_)
      refine wpAnyH_take (i := 0) (oi := ?oi20) (v := ?v20) ?hi20 (by kernel_rfl) (by kernel_rfl) (by kernel_rfl) ?hQ20 (Or.inl ⟨?hw20, ?hy20⟩) (by assumption) ?rest20
      case hi20 => (simp only [gA, gB, gC]; rfl)
      case hQ20 => exact fun _ _ _ h => h
      case hw20 => rfl
      case hy20 => (intro w hSw; (try dsimp only at hSw); go_simp; try with_reducible rfl)
      (try simp only [Act.put, sA, sB, sC])
      refine wpAnyH_take (i := 1) (oi := ?oi21) (v := ?v21) ?hi21 (by kernel_rfl) (by kernel_rfl) (by kernel_rfl) ?hQ21 (Or.inl ⟨?hw21, ?hy21⟩) (by assumption) ?rest21
      case hi21 => (simp only [gA, gB, gC]; rfl)
      case hQ21 => exact fun _ _ _ h => h
      case hw21 => rfl
      case hy21 => (intro w hSw; (try dsimp only at hSw); go_simp; try with_reducible rfl)
      (try simp only [Act.put, sA, sB, sC])
      refine wpAnyH_take (i := 2) (oi := ?oi22) (v := ?v22) ?hi22 (by kernel_rfl) (by kernel_rfl) (by kernel_rfl) ?hQ22 (Or.inl ⟨?hw22, ?hy22⟩) (by assumption) ?rest22
      case hi22 => (simp only [gA, gB, gC]; rfl)
      case hQ22 => exact fun _ _ _ h => h
      case hw22 => rfl
      case hy22 => (intro w hSw; (try dsimp only at hSw); go_simp; try with_reducible rfl)
      (try simp only [Act.put, sA, sB, sC])
      refine wpAnyH_take (i := 3) (oi := ?oi23) (v := ?v23) ?hi23 (by kernel_rfl) (by kernel_rfl) (by kernel_rfl) ?hQ23 (Or.inl ⟨?hw23, ?hy23⟩) (by assumption) ?rest23
      case hi23 => (simp only [gA, gB, gC]; rfl)
      case hQ23 => exact fun _ _ _ h => h
      case hw23 => rfl
      case hy23 => (intro w hSw; (try dsimp only at hSw); go_simp; try with_reducible rfl)
      (try simp only [Act.put, sA, sB, sC])
      refine wpAnyH_take (i := 4) (oi := ?oi24) (v := ?v24) ?hi24 (by kernel_rfl) (by kernel_rfl) (by kernel_rfl) ?hQ24 (Or.inl ⟨?hw24, ?hy24⟩) (by assumption) ?rest24
      case hi24 => (simp only [gA, gB, gC]; rfl)
      case hQ24 => exact fun _ _ _ h => h
      case hw24 => rfl
      case hy24 => (intro w hSw; (try dsimp only at hSw); go_simp; try with_reducible rfl)
      (try simp only [Act.put, sA, sB, sC])
      refine wpAnyH_ready (rs := [5, 6]) (by kernel_rfl) (by simp) ?_
      refine AllReadyH.cons (o := ?o25) ?ho25 (fun K hK => ?st25) (AllReadyH.cons (o := ?o26) ?ho26 (fun K hK => ?st26) AllReadyH.nil)
      case ho25 => (simp only [gA, gB, gC]; rfl)
      case ho26 => (simp only [gA, gB, gC]; rfl)
      · go_simp
        refine (H0.out _ (And.left (And.left hHeld))).mono ?_; rintro e wA ⟨rfl, hbA⟩; have hSA := HKP.out _ _ hHeld hbA
        refine hK.out _ _ ?_ (fun hHeld => ?_)
        · (try dsimp only); exact hSA
        clear hK K
        (try simp only [Act.put, sA, sB, sC])
        refine wpAnyH_ready (rs := [6]) (by kernel_rfl) (by simp) ?_
        refine AllReadyH.cons (o := ?o27) ?ho27 (fun K hK => ?st27) AllReadyH.nil
        case ho27 => (simp only [gA, gB, gC]; rfl)
        go_simp
        refine hK.out _ _ ?_ (fun hHeld => ?_)
        · (try dsimp only); exact HKP.out _ _ hSA (alloc1 _ _)
        clear hK K
        (try simp only [Act.put, sA, sB, sC])
        refine wpAnyH_ready (rs := [7]) (by kernel_rfl) (by simp) ?_
        refine AllReadyH.cons (o := ?o28) ?ho28 (fun K hK => ?st28) AllReadyH.nil
        case ho28 => (simp only [gA, gB, gC]; rfl)
        go_simp
        refine hK.out _ _ ?_ (fun hHeld => ?_)
        · (try dsimp only); exact HKP.out _ _ hSA (alloc1 _ _)
        clear hK K
        (try simp only [Act.put, sA, sB, sC])
        refine wpAnyH_done (by kernel_rfl) ?_ _
        go_wp2_with fail
        go_meet
        exact ⟨_, rfl, hSA.1.2.1, hHeld.1, Bx.new _ r1⟩
      · go_simp
        refine hK.out _ _ ?_ (fun hHeld => ?_)
        · (try dsimp only); exact HKP.out _ _ hS0 (alloc1 _ _)
        clear hK K
        (try simp only [Act.put, sA, sB, sC])
        refine wpAnyH_ready (rs := [5]) (by kernel_rfl) (by simp) ?_
        refine AllReadyH.cons (o := ?o29) ?ho29 (fun K hK => ?st29) AllReadyH.nil
        case ho29 => (simp only [gA, gB, gC]; rfl)
        go_simp
        refine (H0.out _ (And.left (And.left hHeld))).mono ?_; rintro e wA ⟨rfl, hbA⟩; have hSA := HKP.out _ _ hHeld hbA; obtain ⟨e0, e1, e2, e3, e4, ef⟩ := newcells hbA
        refine hK.out _ _ ?_ (fun hHeld => ?_)
        · (try dsimp only); exact hSA
        clear hK K
        (try simp only [Act.put, sA, sB, sC])
        refine wpAnyH_ready (rs := [7]) (by kernel_rfl) (by simp) ?_
        refine AllReadyH.cons (o := ?o30) ?ho30 (fun K hK => ?st30) AllReadyH.nil
        case ho30 => (simp only [gA, gB, gC]; rfl)
        go_simp
        refine hK.out _ _ ?_ (fun hHeld => ?_)
        · (try dsimp only); exact HKS.out _ _ _ _ _ _ _ htb.2.1 hSA
        clear hK K
        (try simp only [Act.put, sA, sB, sC])
        refine wpAnyH_done (by kernel_rfl) ?_ _
        go_wp2_with fail
        go_meet
        exact ⟨_, rfl, htb.2.1, hHeld.1, bx_set e0 e1 e2 e3 e4⟩
    case rest =>
      clear htb HHELD HKP HKS
      obtain ⟨b, rfl, hbge, hTB, hx0, hx1, hx2, hx3, hx4⟩ := hcut
      obtain ⟨d0, d1, d2, d3, d4, d5, d6, d7⟩ := hTB.2.2.2.2.1
      have g0 := hTB.2.2.1
      have g1 := hTB.2.2.2.1
      obtain ⟨q1, q2⟩ := q
      by_cases hf : q2 = 0
      · subst hf
        go_wp2_with (first
          | (go_at_call 270; refine (HF.out _).mono ?_; rintro e w2 ⟨rfl, hb2⟩; have hT2 := hTB.below hb2)
          | (go_at_call 266; refine (sure_ok _ _).mono ?_; rintro e w3 ⟨rfl, hb3⟩; have hT3 := hT2.below hb3; obtain ⟨ou0, ou1, ou2, ou3, ou4, ov0, ov1, ov2, ov3, ov4, ovf⟩ := TB.out hT3))
        exact bodyPost_ret (v := agV q1) (by simp [results, Tryz.results257, go_sem, ov0, ov1, ov2, ov3, ov4]) rfl ⟨rfl, TB.done hT3 _ _ _ _ _⟩
      · have HB := Lib.hid (sure_bad q1 q2 hf)
        have HNE := Lib.hid hf
        clear hf
        go_wp2_with (first
          | (go_at_call 270; refine (HF.out _).mono ?_; rintro e w2 ⟨rfl, hb2⟩; have hT2 := hTB.below hb2)
          | (go_at_call 266; refine (HB.out _).mono ?_; rintro e w3 ⟨rfl, hb3⟩))
        exact ⟨rfl, (if_neg HNE.out).symm, (hT2.1.trans (hb3.mono hT2.1.size))⟩
  · have h0 := fun W hb => (H0.out W hb).mono (fun e w' h => (⟨h.1.trans (if_neg hz), h.2⟩ : e = .panicked (PV r2) ∧ Below W.heap.size W w'))
    clear H0
    have H0 := Lib.hid h0
    have HZ := Lib.hid hz
    rw [if_pos hz]
    clear h0 hv0 hz
    have htb : TB w FA fn FC VA vn VC 16 (some ad) n c nm v (((w.alloc (.cells #[.slice FA fn FC, .slice VA vn VC] 248)).alloc (.cells #[.int .i64 16, .slice (some ad) n c, .string nm, .int .i64 v.k, .int .i64 v.i, .bool v.b, .string v.s, .float .f64 v.n] 75)).alloc (.cells #[.int .i64 0, .int .i64 0, .bool false, .string { data := #[] }, .float .f64 0] 55)) := TB_new w FA fn FC VA vn VC 16 (some ad) n c nm v
    have HHELD := Lib.hid (fun W (hb : TB w FA fn FC VA vn VC 16 (some ad) n c nm v W) => (show THeld w FA fn FC VA vn VC ad n c p0 A0 n0 c0 m0 y0 W from let q := hq0 W hb.1; ⟨hb.2.2.1, hb.2.2.2.1, hb.2.2.2.2.1.2.1, q.1, q.2.1, q.2.2.1, q.2.2.2.1, q.2.2.2.2.1, q.2.2.2.2.2.1, q.2.2.2.2.2.2.1, q.2.2.2.2.2.2.2⟩))
    clear hq0
    have HKP := Lib.hid (fun (W W' : World) (h : TB w FA fn FC VA vn VC 16 (some ad) n c nm v W ∧ THeld w FA fn FC VA vn VC ad n c p0 A0 n0 c0 m0 y0 W) (hb : Below W.heap.size W W') => And.intro (h.1.below hb) (HHELD.out _ (h.1.below hb)))
    have HKS := Lib.hid (fun (W : World) (b : Nat) (u0 u1 u2 u3 u4 : Value) (hge : w.heap.size + 3 ≤ b) (h : TB w FA fn FC VA vn VC 16 (some ad) n c nm v W ∧ THeld w FA fn FC VA vn VC ad n c p0 A0 n0 c0 m0 y0 W) => let hb := below_set5 (Below.refl (w.heap.size + 3) W) hge u0 u1 u2 u3 u4; And.intro (h.1.below3 hb) (HHELD.out _ (h.1.below3 hb)))
    go_enter Tryz.func257, Tryz.ntmps257
    go_upto_region 6 with fail
    generalize ((w.alloc (.cells #[.slice FA fn FC, .slice VA vn VC] 248)).alloc (.cells #[.int .i64 16, .slice (some ad) n c, .string nm, .int .i64 v.k, .int .i64 v.i, .bool v.b, .string v.s, .float .f64 v.n] 75)).alloc (.cells #[.int .i64 0, .int .i64 0, .bool false, .string { data := #[] }, .float .f64 0] 55) = wb at *
    have hS0 : TB w FA fn FC VA vn VC 16 (some ad) n c nm v wb.drew ∧ THeld w FA fn FC VA vn VC ad n c p0 A0 n0 c0 m0 y0 wb.drew := ⟨htb.below (Below.refl _ _).drew, HHELD.out _ (htb.below (Below.refl _ _).drew)⟩
    refine wp_region_held_drew (S := (fun W => TB w FA fn FC VA vn VC 16 (some ad) n c nm v W ∧ THeld w FA fn FC VA vn VC ad n c p0 A0 n0 c0 m0 y0 W)) (by kernel_rfl) (hS0) (fun hHeld => ?_)
    refine wpAnyH_take (i := 0) (oi := ?oi31) (v := ?v31) ?hi31 (by kernel_rfl) (by kernel_rfl) (by kernel_rfl) ?hQ31 (Or.inl ⟨?hw31, ?hy31⟩) (by assumption) ?rest31
    case hi31 => (simp only [gA, gB, gC]; rfl)
    case hQ31 => exact fun _ _ _ h => h
    case hw31 => rfl
    case hy31 => (intro w hSw; (try dsimp only at hSw); go_simp; try with_reducible rfl)
    (try simp only [Act.put, sA, sB, sC])
    refine wpAnyH_take (i := 1) (oi := ?oi32) (v := ?v32) ?hi32 (by kernel_rfl) (by kernel_rfl) (by kernel_rfl) ?hQ32 (Or.inl ⟨?hw32, ?hy32⟩) (by assumption) ?rest32
    case hi32 => (simp only [gA, gB, gC]; rfl)
    case hQ32 => exact fun _ _ _ h => h
    case hw32 => rfl
    case hy32 => (intro w hSw; (try dsimp only at hSw); go_simp; try with_reducible rfl)
    (try simp only [Act.put, sA, sB, sC])
    refine wpAnyH_take (i := 2) (oi := ?oi33) (v := ?v33) ?hi33 (by kernel_rfl) (by kernel_rfl) (by kernel_rfl) ?hQ33 (Or.inl ⟨?hw33, ?hy33⟩) (by assumption) ?rest33
    case hi33 => (simp only [gA, gB, gC]; rfl)
    case hQ33 => exact fun _ _ _ h => h
    case hw33 => rfl
    case hy33 => (intro w hSw; (try dsimp only at hSw); go_simp; try with_reducible rfl)
    (try simp only [Act.put, sA, sB, sC])
    refine wpAnyH_take (i := 3) (oi := ?oi34) (v := ?v34) ?hi34 (by kernel_rfl) (by kernel_rfl) (by kernel_rfl) ?hQ34 (Or.inl ⟨?hw34, ?hy34⟩) (by assumption) ?rest34
    case hi34 => (simp only [gA, gB, gC]; rfl)
    case hQ34 => exact fun _ _ _ h => h
    case hw34 => rfl
    case hy34 => (intro w hSw; (try dsimp only at hSw); go_simp; try with_reducible rfl)
    (try simp only [Act.put, sA, sB, sC])
    refine wpAnyH_take (i := 4) (oi := ?oi35) (v := ?v35) ?hi35 (by kernel_rfl) (by kernel_rfl) (by kernel_rfl) ?hQ35 (Or.inl ⟨?hw35, ?hy35⟩) (by assumption) ?rest35
    case hi35 => (simp only [gA, gB, gC]; rfl)
    case hQ35 => exact fun _ _ _ h => h
    case hw35 => rfl
    case hy35 => (intro w hSw; (try dsimp only at hSw); go_simp; try with_reducible rfl)
    (try simp only [Act.put, sA, sB, sC])
    refine wpAnyH_ready (rs := [5, 6]) (by kernel_rfl) (by simp) ?_
    refine AllReadyH.cons (o := ?o36) ?ho36 (fun K hK => ?st36) (AllReadyH.cons (o := ?o37) ?ho37 (fun K hK => ?st37) AllReadyH.nil)
    case ho36 => (simp only [gA, gB, gC]; rfl)
    case ho37 => (simp only [gA, gB, gC]; rfl)
    · go_simp
      refine (H0.out _ (And.left (And.left hHeld))).mono ?_; rintro e wA ⟨rfl, hbA⟩
      exact ⟨rfl, (if_neg HZ.out).symm, (And.left (And.left hHeld)).trans (hbA.mono (And.left (And.left hHeld)).size)⟩
    · go_simp
      refine hK.out _ _ ?_ (fun hHeld => ?_)
      · (try dsimp only); exact HKP.out _ _ hS0 (alloc1 _ _)
      clear hK K
      (try simp only [Act.put, sA, sB, sC])
      refine wpAnyH_ready (rs := [5]) (by kernel_rfl) (by simp) ?_
      refine AllReadyH.cons (o := ?o38) ?ho38 (fun K hK => ?st38) AllReadyH.nil
      case ho38 => (simp only [gA, gB, gC]; rfl)
      go_simp
      refine (H0.out _ (And.left (And.left hHeld))).mono ?_; rintro e wA ⟨rfl, hbA⟩
      exact ⟨rfl, (if_neg HZ.out).symm, (And.left (And.left hHeld)).trans (hbA.mono (And.left (And.left hHeld)).size)⟩
set_option maxHeartbeats 600000 in
theorem tell_12 (FA : Option Addr) (fn FC : Nat) (VA : Option Addr) (vn VC : Nat) (ad : Addr) (n c : Nat) (nm : ByteArray) (v : Vl) (w : World) (A0 : Option Addr) (n0 c0 : Nat) (m0 : ByteArray) (y0 : Vl) (p0 : Int) (R0 : Vl × Int) (hq0 : ∀ W, Below w.heap.size w W → Kid W ad p0 A0 n0 c0 m0 y0) (h0 : ∀ W, Below w.heap.size w W → Calls Tryz.prog 257 #[agR FA fn FC VA vn VC, agX p0 A0 n0 c0 m0 y0] W (TellP R0 W)) (hv0 : R0.2 = 0 → okV R0.1) (hn : 0 < n) :
    Calls Tryz.prog 257 #[agR FA fn FC VA vn VC, agX 12 (some ad) n c nm v] w (TellP (if R0.2 ≠ 0 then (vZero, R0.2) else (vTruth (!R0.1.b), 0)) w) := by
  have hsf := fun (w : World) (a : Addr) (m : Mode) (b : Nat) => run_store Tryz.prog w a (.float .f64 b) m rfl
  have hi : (0 : Int) < (n : Int) := by omega
  have hn0 : 0 < n := by omega
  obtain ⟨r1, r2⟩ := R0
  have H0 := Lib.hid h0
  clear h0
  by_cases hz : r2 = 0
  · subst hz
    rw [if_neg (fun h => h rfl)]
    have h0 := fun W hb => (H0.out W hb).mono (fun e w' h => (⟨h.1.trans (if_pos rfl), h.2⟩ : e = .returned (agV r1) ∧ Below W.heap.size W w'))
    clear H0
    have H0 := Lib.hid h0
    clear h0 hv0
    have htb : TB w FA fn FC VA vn VC 12 (some ad) n c nm v (((w.alloc (.cells #[.slice FA fn FC, .slice VA vn VC] 248)).alloc (.cells #[.int .i64 12, .slice (some ad) n c, .string nm, .int .i64 v.k, .int .i64 v.i, .bool v.b, .string v.s, .float .f64 v.n] 75)).alloc (.cells #[.int .i64 0, .int .i64 0, .bool false, .string { data := #[] }, .float .f64 0] 55)) := TB_new w FA fn FC VA vn VC 12 (some ad) n c nm v
    have HHELD := Lib.hid (fun W (hb : TB w FA fn FC VA vn VC 12 (some ad) n c nm v W) => (show THeld w FA fn FC VA vn VC ad n c p0 A0 n0 c0 m0 y0 W from let q := hq0 W hb.1; ⟨hb.2.2.1, hb.2.2.2.1, hb.2.2.2.2.1.2.1, q.1, q.2.1, q.2.2.1, q.2.2.2.1, q.2.2.2.2.1, q.2.2.2.2.2.1, q.2.2.2.2.2.2.1, q.2.2.2.2.2.2.2⟩))
    clear hq0
    have HKP := Lib.hid (fun (W W' : World) (h : TB w FA fn FC VA vn VC 12 (some ad) n c nm v W ∧ THeld w FA fn FC VA vn VC ad n c p0 A0 n0 c0 m0 y0 W) (hb : Below W.heap.size W W') => And.intro (h.1.below hb) (HHELD.out _ (h.1.below hb)))
    have HKS := Lib.hid (fun (W : World) (b : Nat) (u0 u1 u2 u3 u4 : Value) (hge : w.heap.size + 3 ≤ b) (h : TB w FA fn FC VA vn VC 12 (some ad) n c nm v W ∧ THeld w FA fn FC VA vn VC ad n c p0 A0 n0 c0 m0 y0 W) => let hb := below_set5 (Below.refl (w.heap.size + 3) W) hge u0 u1 u2 u3 u4; And.intro (h.1.below3 hb) (HHELD.out _ (h.1.below3 hb)))
    go_enter Tryz.func257, Tryz.ntmps257
    go_upto_region 6 with fail
    generalize ((w.alloc (.cells #[.slice FA fn FC, .slice VA vn VC] 248)).alloc (.cells #[.int .i64 12, .slice (some ad) n c, .string nm, .int .i64 v.k, .int .i64 v.i, .bool v.b, .string v.s, .float .f64 v.n] 75)).alloc (.cells #[.int .i64 0, .int .i64 0, .bool false, .string { data := #[] }, .float .f64 0] 55) = wb at *
    go_cut [5] from 23 to 28 (fun s5 wx => ∃ b, s5 = .pointer (some ⟨b, 0, none⟩) ∧ w.heap.size + 3 ≤ b ∧ TB w FA fn FC VA vn VC 12 (some ad) n c nm v wx ∧ Bx wx b r1)
    case first =>
      have hS0 : TB w FA fn FC VA vn VC 12 (some ad) n c nm v wb.drew ∧ THeld w FA fn FC VA vn VC ad n c p0 A0 n0 c0 m0 y0 wb.drew := ⟨htb.below (Below.refl _ _).drew, HHELD.out _ (htb.below (Below.refl _ _).drew)⟩
      refine wp_region_held_drew (S := (fun W => TB w FA fn FC VA vn VC 12 (some ad) n c nm v W ∧ THeld w FA fn FC VA vn VC ad n c p0 A0 n0 c0 m0 y0 W)) (by kernel_rfl) (hS0) (fun hHeld => ?_)
      refine wpAnyH_take (i := 0) (oi := ?oi39) (v := ?v39) ?hi39 (by kernel_rfl) (by kernel_rfl) (by kernel_rfl) ?hQ39 (Or.inl ⟨?hw39, ?hy39⟩) (by assumption) ?rest39
      case hi39 => (simp only [gA, gB, gC]; rfl)
      case hQ39 => exact fun _ _ _ h => h
      case hw39 => rfl
      case hy39 => (intro w hSw; (try dsimp only at hSw); go_simp; try with_reducible rfl)
      (try simp only [Act.put, sA, sB, sC])
      refine wpAnyH_take (i := 1) (oi := ?oi40) (v := ?v40) ?hi40 (by kernel_rfl) (by kernel_rfl) (by kernel_rfl) ?hQ40 (Or.inl ⟨?hw40, ?hy40⟩) (by assumption) ?rest40
      case hi40 => (simp only [gA, gB, gC]; rfl)
      case hQ40 => exact fun _ _ _ h => h
      case hw40 => rfl
      case hy40 => (intro w hSw; (try dsimp only at hSw); go_simp; try with_reducible rfl)
      (try simp only [Act.put, sA, sB, sC])
      refine wpAnyH_take (i := 2) (oi := ?oi41) (v := ?v41) ?hi41 (by kernel_rfl) (by kernel_rfl) (by kernel_rfl) ?hQ41 (Or.inl ⟨?hw41, ?hy41⟩) (by assumption) ?rest41
      case hi41 => (simp only [gA, gB, gC]; rfl)
      case hQ41 => exact fun _ _ _ h => h
      case hw41 => rfl
      case hy41 => (intro w hSw; (try dsimp only at hSw); go_simp; try with_reducible rfl)
      (try simp only [Act.put, sA, sB, sC])
      refine wpAnyH_take (i := 3) (oi := ?oi42) (v := ?v42) ?hi42 (by kernel_rfl) (by kernel_rfl) (by kernel_rfl) ?hQ42 (Or.inl ⟨?hw42, ?hy42⟩) (by assumption) ?rest42
      case hi42 => (simp only [gA, gB, gC]; rfl)
      case hQ42 => exact fun _ _ _ h => h
      case hw42 => rfl
      case hy42 => (intro w hSw; (try dsimp only at hSw); go_simp; try with_reducible rfl)
      (try simp only [Act.put, sA, sB, sC])
      refine wpAnyH_take (i := 4) (oi := ?oi43) (v := ?v43) ?hi43 (by kernel_rfl) (by kernel_rfl) (by kernel_rfl) ?hQ43 (Or.inl ⟨?hw43, ?hy43⟩) (by assumption) ?rest43
      case hi43 => (simp only [gA, gB, gC]; rfl)
      case hQ43 => exact fun _ _ _ h => h
      case hw43 => rfl
      case hy43 => (intro w hSw; (try dsimp only at hSw); go_simp; try with_reducible rfl)
      (try simp only [Act.put, sA, sB, sC])
      refine wpAnyH_ready (rs := [5, 6]) (by kernel_rfl) (by simp) ?_
      refine AllReadyH.cons (o := ?o44) ?ho44 (fun K hK => ?st44) (AllReadyH.cons (o := ?o45) ?ho45 (fun K hK => ?st45) AllReadyH.nil)
      case ho44 => (simp only [gA, gB, gC]; rfl)
      case ho45 => (simp only [gA, gB, gC]; rfl)
      · go_simp
        refine (H0.out _ (And.left (And.left hHeld))).mono ?_; rintro e wA ⟨rfl, hbA⟩; have hSA := HKP.out _ _ hHeld hbA
        refine hK.out _ _ ?_ (fun hHeld => ?_)
        · (try dsimp only); exact hSA
        clear hK K
        (try simp only [Act.put, sA, sB, sC])
        refine wpAnyH_ready (rs := [6]) (by kernel_rfl) (by simp) ?_
        refine AllReadyH.cons (o := ?o46) ?ho46 (fun K hK => ?st46) AllReadyH.nil
        case ho46 => (simp only [gA, gB, gC]; rfl)
        go_simp
        refine hK.out _ _ ?_ (fun hHeld => ?_)
        · (try dsimp only); exact HKP.out _ _ hSA (alloc1 _ _)
        clear hK K
        (try simp only [Act.put, sA, sB, sC])
        refine wpAnyH_ready (rs := [7]) (by kernel_rfl) (by simp) ?_
        refine AllReadyH.cons (o := ?o47) ?ho47 (fun K hK => ?st47) AllReadyH.nil
        case ho47 => (simp only [gA, gB, gC]; rfl)
        go_simp
        refine hK.out _ _ ?_ (fun hHeld => ?_)
        · (try dsimp only); exact HKP.out _ _ hSA (alloc1 _ _)
        clear hK K
        (try simp only [Act.put, sA, sB, sC])
        refine wpAnyH_done (by kernel_rfl) ?_ _
        go_wp2_with fail
        go_meet
        exact ⟨_, rfl, hSA.1.2.1, hHeld.1, Bx.new _ r1⟩
      · go_simp
        refine hK.out _ _ ?_ (fun hHeld => ?_)
        · (try dsimp only); exact HKP.out _ _ hS0 (alloc1 _ _)
        clear hK K
        (try simp only [Act.put, sA, sB, sC])
        refine wpAnyH_ready (rs := [5]) (by kernel_rfl) (by simp) ?_
        refine AllReadyH.cons (o := ?o48) ?ho48 (fun K hK => ?st48) AllReadyH.nil
        case ho48 => (simp only [gA, gB, gC]; rfl)
        go_simp
        refine (H0.out _ (And.left (And.left hHeld))).mono ?_; rintro e wA ⟨rfl, hbA⟩; have hSA := HKP.out _ _ hHeld hbA; obtain ⟨e0, e1, e2, e3, e4, ef⟩ := newcells hbA
        refine hK.out _ _ ?_ (fun hHeld => ?_)
        · (try dsimp only); exact hSA
        clear hK K
        (try simp only [Act.put, sA, sB, sC])
        refine wpAnyH_ready (rs := [7]) (by kernel_rfl) (by simp) ?_
        refine AllReadyH.cons (o := ?o49) ?ho49 (fun K hK => ?st49) AllReadyH.nil
        case ho49 => (simp only [gA, gB, gC]; rfl)
        go_simp
        refine hK.out _ _ ?_ (fun hHeld => ?_)
        · (try dsimp only); exact HKS.out _ _ _ _ _ _ _ htb.2.1 hSA
        clear hK K
        (try simp only [Act.put, sA, sB, sC])
        refine wpAnyH_done (by kernel_rfl) ?_ _
        go_wp2_with fail
        go_meet
        exact ⟨_, rfl, htb.2.1, hHeld.1, bx_set e0 e1 e2 e3 e4⟩
    case rest =>
      clear htb HHELD HKP HKS
      obtain ⟨b, rfl, hbge, hTB, hx0, hx1, hx2, hx3, hx4⟩ := hcut
      obtain ⟨d0, d1, d2, d3, d4, d5, d6, d7⟩ := hTB.2.2.2.2.1
      have g0 := hTB.2.2.1
      have g1 := hTB.2.2.2.1
      go_wp2_with (first
        | (go_at_call 271; refine (etruth_any _ _).mono ?_; rintro e w3 ⟨rfl, hb3⟩; have hT3 := hTB.below hb3; obtain ⟨ou0, ou1, ou2, ou3, ou4, ov0, ov1, ov2, ov3, ov4, ovf⟩ := TB.out hT3))
      exact bodyPost_ret (v := agV (vTruth (!r1.b))) (by simp [results, Tryz.results257, go_sem, ov0, ov1, ov2, ov3, ov4]) rfl ⟨rfl, TB.done hT3 _ _ _ _ _⟩
  · have h0 := fun W hb => (H0.out W hb).mono (fun e w' h => (⟨h.1.trans (if_neg hz), h.2⟩ : e = .panicked (PV r2) ∧ Below W.heap.size W w'))
    clear H0
    have H0 := Lib.hid h0
    have HZ := Lib.hid hz
    rw [if_pos hz]
    clear h0 hv0 hz
    have htb : TB w FA fn FC VA vn VC 12 (some ad) n c nm v (((w.alloc (.cells #[.slice FA fn FC, .slice VA vn VC] 248)).alloc (.cells #[.int .i64 12, .slice (some ad) n c, .string nm, .int .i64 v.k, .int .i64 v.i, .bool v.b, .string v.s, .float .f64 v.n] 75)).alloc (.cells #[.int .i64 0, .int .i64 0, .bool false, .string { data := #[] }, .float .f64 0] 55)) := TB_new w FA fn FC VA vn VC 12 (some ad) n c nm v
    have HHELD := Lib.hid (fun W (hb : TB w FA fn FC VA vn VC 12 (some ad) n c nm v W) => (show THeld w FA fn FC VA vn VC ad n c p0 A0 n0 c0 m0 y0 W from let q := hq0 W hb.1; ⟨hb.2.2.1, hb.2.2.2.1, hb.2.2.2.2.1.2.1, q.1, q.2.1, q.2.2.1, q.2.2.2.1, q.2.2.2.2.1, q.2.2.2.2.2.1, q.2.2.2.2.2.2.1, q.2.2.2.2.2.2.2⟩))
    clear hq0
    have HKP := Lib.hid (fun (W W' : World) (h : TB w FA fn FC VA vn VC 12 (some ad) n c nm v W ∧ THeld w FA fn FC VA vn VC ad n c p0 A0 n0 c0 m0 y0 W) (hb : Below W.heap.size W W') => And.intro (h.1.below hb) (HHELD.out _ (h.1.below hb)))
    have HKS := Lib.hid (fun (W : World) (b : Nat) (u0 u1 u2 u3 u4 : Value) (hge : w.heap.size + 3 ≤ b) (h : TB w FA fn FC VA vn VC 12 (some ad) n c nm v W ∧ THeld w FA fn FC VA vn VC ad n c p0 A0 n0 c0 m0 y0 W) => let hb := below_set5 (Below.refl (w.heap.size + 3) W) hge u0 u1 u2 u3 u4; And.intro (h.1.below3 hb) (HHELD.out _ (h.1.below3 hb)))
    go_enter Tryz.func257, Tryz.ntmps257
    go_upto_region 6 with fail
    generalize ((w.alloc (.cells #[.slice FA fn FC, .slice VA vn VC] 248)).alloc (.cells #[.int .i64 12, .slice (some ad) n c, .string nm, .int .i64 v.k, .int .i64 v.i, .bool v.b, .string v.s, .float .f64 v.n] 75)).alloc (.cells #[.int .i64 0, .int .i64 0, .bool false, .string { data := #[] }, .float .f64 0] 55) = wb at *
    have hS0 : TB w FA fn FC VA vn VC 12 (some ad) n c nm v wb.drew ∧ THeld w FA fn FC VA vn VC ad n c p0 A0 n0 c0 m0 y0 wb.drew := ⟨htb.below (Below.refl _ _).drew, HHELD.out _ (htb.below (Below.refl _ _).drew)⟩
    refine wp_region_held_drew (S := (fun W => TB w FA fn FC VA vn VC 12 (some ad) n c nm v W ∧ THeld w FA fn FC VA vn VC ad n c p0 A0 n0 c0 m0 y0 W)) (by kernel_rfl) (hS0) (fun hHeld => ?_)
    refine wpAnyH_take (i := 0) (oi := ?oi50) (v := ?v50) ?hi50 (by kernel_rfl) (by kernel_rfl) (by kernel_rfl) ?hQ50 (Or.inl ⟨?hw50, ?hy50⟩) (by assumption) ?rest50
    case hi50 => (simp only [gA, gB, gC]; rfl)
    case hQ50 => exact fun _ _ _ h => h
    case hw50 => rfl
    case hy50 => (intro w hSw; (try dsimp only at hSw); go_simp; try with_reducible rfl)
    (try simp only [Act.put, sA, sB, sC])
    refine wpAnyH_take (i := 1) (oi := ?oi51) (v := ?v51) ?hi51 (by kernel_rfl) (by kernel_rfl) (by kernel_rfl) ?hQ51 (Or.inl ⟨?hw51, ?hy51⟩) (by assumption) ?rest51
    case hi51 => (simp only [gA, gB, gC]; rfl)
    case hQ51 => exact fun _ _ _ h => h
    case hw51 => rfl
    case hy51 => (intro w hSw; (try dsimp only at hSw); go_simp; try with_reducible rfl)
    (try simp only [Act.put, sA, sB, sC])
    refine wpAnyH_take (i := 2) (oi := ?oi52) (v := ?v52) ?hi52 (by kernel_rfl) (by kernel_rfl) (by kernel_rfl) ?hQ52 (Or.inl ⟨?hw52, ?hy52⟩) (by assumption) ?rest52
    case hi52 => (simp only [gA, gB, gC]; rfl)
    case hQ52 => exact fun _ _ _ h => h
    case hw52 => rfl
    case hy52 => (intro w hSw; (try dsimp only at hSw); go_simp; try with_reducible rfl)
    (try simp only [Act.put, sA, sB, sC])
    refine wpAnyH_take (i := 3) (oi := ?oi53) (v := ?v53) ?hi53 (by kernel_rfl) (by kernel_rfl) (by kernel_rfl) ?hQ53 (Or.inl ⟨?hw53, ?hy53⟩) (by assumption) ?rest53
    case hi53 => (simp only [gA, gB, gC]; rfl)
    case hQ53 => exact fun _ _ _ h => h
    case hw53 => rfl
    case hy53 => (intro w hSw; (try dsimp only at hSw); go_simp; try with_reducible rfl)
    (try simp only [Act.put, sA, sB, sC])
    refine wpAnyH_take (i := 4) (oi := ?oi54) (v := ?v54) ?hi54 (by kernel_rfl) (by kernel_rfl) (by kernel_rfl) ?hQ54 (Or.inl ⟨?hw54, ?hy54⟩) (by assumption) ?rest54
    case hi54 => (simp only [gA, gB, gC]; rfl)
    case hQ54 => exact fun _ _ _ h => h
    case hw54 => rfl
    case hy54 => (intro w hSw; (try dsimp only at hSw); go_simp; try with_reducible rfl)
    (try simp only [Act.put, sA, sB, sC])
    refine wpAnyH_ready (rs := [5, 6]) (by kernel_rfl) (by simp) ?_
    refine AllReadyH.cons (o := ?o55) ?ho55 (fun K hK => ?st55) (AllReadyH.cons (o := ?o56) ?ho56 (fun K hK => ?st56) AllReadyH.nil)
    case ho55 => (simp only [gA, gB, gC]; rfl)
    case ho56 => (simp only [gA, gB, gC]; rfl)
    · go_simp
      refine (H0.out _ (And.left (And.left hHeld))).mono ?_; rintro e wA ⟨rfl, hbA⟩
      exact ⟨rfl, (if_neg HZ.out).symm, (And.left (And.left hHeld)).trans (hbA.mono (And.left (And.left hHeld)).size)⟩
    · go_simp
      refine hK.out _ _ ?_ (fun hHeld => ?_)
      · (try dsimp only); exact HKP.out _ _ hS0 (alloc1 _ _)
      clear hK K
      (try simp only [Act.put, sA, sB, sC])
      refine wpAnyH_ready (rs := [5]) (by kernel_rfl) (by simp) ?_
      refine AllReadyH.cons (o := ?o57) ?ho57 (fun K hK => ?st57) AllReadyH.nil
      case ho57 => (simp only [gA, gB, gC]; rfl)
      go_simp
      refine (H0.out _ (And.left (And.left hHeld))).mono ?_; rintro e wA ⟨rfl, hbA⟩
      exact ⟨rfl, (if_neg HZ.out).symm, (And.left (And.left hHeld)).trans (hbA.mono (And.left (And.left hHeld)).size)⟩
end Go.Proofs.YtkahhoefbphllaaGreat

/- Layer 5: what a part tells, by the program. (Made by gen/gentell.py.) -/
namespace Go.Proofs.YtkahhoefbphllaaGreat
open Go.RowKit
set_option linter.unusedVariables false
set_option linter.unusedSimpArgs false
set_option maxRecDepth 20000

set_option maxHeartbeats 600000 in
theorem tell_13 (FA : Option Addr) (fn FC : Nat) (VA : Option Addr) (vn VC : Nat) (ad : Addr) (n c : Nat) (nm : ByteArray) (v : Vl) (w : World) (A0 : Option Addr) (n0 c0 : Nat) (m0 : ByteArray) (y0 : Vl) (p0 : Int) (R0 : Vl × Int) (hq0 : ∀ W, Below w.heap.size w W → Kid W ad p0 A0 n0 c0 m0 y0) (h0 : ∀ W, Below w.heap.size w W → Calls Tryz.prog 257 #[agR FA fn FC VA vn VC, agX p0 A0 n0 c0 m0 y0] W (TellP R0 W)) (hv0 : R0.2 = 0 → okV R0.1) (A1 : Option Addr) (n1 c1 : Nat) (m1 : ByteArray) (y1 : Vl) (p1 : Int) (R1 : Vl × Int) (hq1 : ∀ W, Below w.heap.size w W → Kid W ⟨ad.block, ad.off + 8, none⟩ p1 A1 n1 c1 m1 y1) (h1 : ∀ W, Below w.heap.size w W → Calls Tryz.prog 257 #[agR FA fn FC VA vn VC, agX p1 A1 n1 c1 m1 y1] W (TellP R1 W)) (hv1 : R1.2 = 0 → okV R1.1) (A2 : Option Addr) (n2 c2 : Nat) (m2 : ByteArray) (y2 : Vl) (p2 : Int) (R2 : Vl × Int) (hq2 : ∀ W, Below w.heap.size w W → Kid W ⟨ad.block, ad.off + 16, none⟩ p2 A2 n2 c2 m2 y2) (h2 : ∀ W, Below w.heap.size w W → Calls Tryz.prog 257 #[agR FA fn FC VA vn VC, agX p2 A2 n2 c2 m2 y2] W (TellP R2 W)) (hv2 : R2.2 = 0 → okV R2.1) (hn : 2 < n) :
    Calls Tryz.prog 257 #[agR FA fn FC VA vn VC, agX 13 (some ad) n c nm v] w (TellP (if R0.2 ≠ 0 then (vZero, R0.2) else (if R0.1.b = true then R1 else R2)) w) := by
  have hi1 : (1 : Int) < (n : Int) := by omega
  have hn1 : 1 < n := by omega
  have hi2 : (2 : Int) < (n : Int) := by omega
  have hsf := fun (w : World) (a : Addr) (m : Mode) (b : Nat) => run_store Tryz.prog w a (.float .f64 b) m rfl
  have hi : (0 : Int) < (n : Int) := by omega
  have hn0 : 0 < n := by omega
  have HQ1 := Lib.hid hq1
  have H1 := Lib.hid h1
  clear hq1 h1 hv1
  have HQ2 := Lib.hid hq2
  have H2 := Lib.hid h2
  clear hq2 h2 hv2
  obtain ⟨r1, r2⟩ := R0
  have H0 := Lib.hid h0
  clear h0
  by_cases hz : r2 = 0
  · subst hz
    rw [if_neg (fun h => h rfl)]
    have h0 := fun W hb => (H0.out W hb).mono (fun e w' h => (⟨h.1.trans (if_pos rfl), h.2⟩ : e = .returned (agV r1) ∧ Below W.heap.size W w'))
    clear H0
    have H0 := Lib.hid h0
    clear h0 hv0
    rcases hb : r1.b with _ | _
    · rw [if_neg (by decide)]
      have HBB := Lib.hid hb
      clear hb
      have htb : TB w FA fn FC VA vn VC 13 (some ad) n c nm v (((w.alloc (.cells #[.slice FA fn FC, .slice VA vn VC] 248)).alloc (.cells #[.int .i64 13, .slice (some ad) n c, .string nm, .int .i64 v.k, .int .i64 v.i, .bool v.b, .string v.s, .float .f64 v.n] 75)).alloc (.cells #[.int .i64 0, .int .i64 0, .bool false, .string { data := #[] }, .float .f64 0] 55)) := TB_new w FA fn FC VA vn VC 13 (some ad) n c nm v
      have HHELD := Lib.hid (fun W (hb : TB w FA fn FC VA vn VC 13 (some ad) n c nm v W) => (show THeld w FA fn FC VA vn VC ad n c p0 A0 n0 c0 m0 y0 W from let q := hq0 W hb.1; ⟨hb.2.2.1, hb.2.2.2.1, hb.2.2.2.2.1.2.1, q.1, q.2.1, q.2.2.1, q.2.2.2.1, q.2.2.2.2.1, q.2.2.2.2.2.1, q.2.2.2.2.2.2.1, q.2.2.2.2.2.2.2⟩))
      clear hq0
      have HKP := Lib.hid (fun (W W' : World) (h : TB w FA fn FC VA vn VC 13 (some ad) n c nm v W ∧ THeld w FA fn FC VA vn VC ad n c p0 A0 n0 c0 m0 y0 W) (hb : Below W.heap.size W W') => And.intro (h.1.below hb) (HHELD.out _ (h.1.below hb)))
      have HKS := Lib.hid (fun (W : World) (b : Nat) (u0 u1 u2 u3 u4 : Value) (hge : w.heap.size + 3 ≤ b) (h : TB w FA fn FC VA vn VC 13 (some ad) n c nm v W ∧ THeld w FA fn FC VA vn VC ad n c p0 A0 n0 c0 m0 y0 W) => let hb := below_set5 (Below.refl (w.heap.size + 3) W) hge u0 u1 u2 u3 u4; And.intro (h.1.below3 hb) (HHELD.out _ (h.1.below3 hb)))
      go_enter Tryz.func257, Tryz.ntmps257
      go_upto_region 6 with fail
      generalize ((w.alloc (.cells #[.slice FA fn FC, .slice VA vn VC] 248)).alloc (.cells #[.int .i64 13, .slice (some ad) n c, .string nm, .int .i64 v.k, .int .i64 v.i, .bool v.b, .string v.s, .float .f64 v.n] 75)).alloc (.cells #[.int .i64 0, .int .i64 0, .bool false, .string { data := #[] }, .float .f64 0] 55) = wb at *
      go_cut [5] from 23 to 28 (fun s5 wx => ∃ b, s5 = .pointer (some ⟨b, 0, none⟩) ∧ w.heap.size + 3 ≤ b ∧ TB w FA fn FC VA vn VC 13 (some ad) n c nm v wx ∧ Bx wx b r1)
      case first =>
        have hS0 : TB w FA fn FC VA vn VC 13 (some ad) n c nm v wb.drew ∧ THeld w FA fn FC VA vn VC ad n c p0 A0 n0 c0 m0 y0 wb.drew := ⟨htb.below (Below.refl _ _).drew, HHELD.out _ (htb.below (Below.refl _ _).drew)⟩
        refine wp_region_held_drew (S := (fun W => TB w FA fn FC VA vn VC 13 (some ad) n c nm v W ∧ THeld w FA fn FC VA vn VC ad n c p0 A0 n0 c0 m0 y0 W)) (by kernel_rfl) (hS0) (fun hHeld => ?_)
        refine wpAnyH_take (i := 0) (oi := ?oi170) (v := ?v170) ?hi170 (by kernel_rfl) (by kernel_rfl) (by kernel_rfl) ?hQ170 (Or.inl ⟨?hw170, ?hy170⟩) (by assumption) ?rest170
        case hi170 => (simp only [gA, gB, gC]; rfl)
        case hQ170 => exact fun _ _ _ h => h
        case hw170 => rfl
        case hy170 => (intro w hSw; (try dsimp only at hSw); go_simp; try with_reducible rfl)
        (try simp only [Act.put, sA, sB, sC])
        refine wpAnyH_take (i := 1) (oi := ?oi171) (v := ?v171) ?hi171 (by kernel_rfl) (by kernel_rfl) (by kernel_rfl) ?hQ171 (Or.inl ⟨?hw171, ?hy171⟩) (by assumption) ?rest171
        case hi171 => (simp only [gA, gB, gC]; rfl)
        case hQ171 => exact fun _ _ _ h => h
        case hw171 => rfl
        case hy171 => (intro w hSw; (try dsimp only at hSw); go_simp; try with_reducible rfl)
        (try simp only [Act.put, sA, sB, sC])
        refine wpAnyH_take (i := 2) (oi := ?oi172) (v := ?v172) ?hi172 (by kernel_rfl) (by kernel_rfl) (by kernel_rfl) ?hQ172 (Or.inl ⟨?hw172, ?hy172⟩) (by assumption) ?rest172
        case hi172 => (simp only [gA, gB, gC]; rfl)
        case hQ172 => exact fun _ _ _ h => h
        case hw172 => rfl
        case hy172 => (intro w hSw; (try dsimp only at hSw); go_simp; try with_reducible rfl)
        (try simp only [Act.put, sA, sB, sC])
        refine wpAnyH_take (i := 3) (oi := ?oi173) (v := ?v173) ?hi173 (by kernel_rfl) (by kernel_rfl) (by kernel_rfl) ?hQ173 (Or.inl ⟨?hw173, ?hy173⟩) (by assumption) ?rest173
        case hi173 => (simp only [gA, gB, gC]; rfl)
        case hQ173 => exact fun _ _ _ h => h
        case hw173 => rfl
        case hy173 => (intro w hSw; (try dsimp only at hSw); go_simp; try with_reducible rfl)
        (try simp only [Act.put, sA, sB, sC])
        refine wpAnyH_take (i := 4) (oi := ?oi174) (v := ?v174) ?hi174 (by kernel_rfl) (by kernel_rfl) (by kernel_rfl) ?hQ174 (Or.inl ⟨?hw174, ?hy174⟩) (by assumption) ?rest174
        case hi174 => (simp only [gA, gB, gC]; rfl)
        case hQ174 => exact fun _ _ _ h => h
        case hw174 => rfl
        case hy174 => (intro w hSw; (try dsimp only at hSw); go_simp; try with_reducible rfl)
        (try simp only [Act.put, sA, sB, sC])
        refine wpAnyH_ready (rs := [5, 6]) (by kernel_rfl) (by simp) ?_
        refine AllReadyH.cons (o := ?o175) ?ho175 (fun K hK => ?st175) (AllReadyH.cons (o := ?o176) ?ho176 (fun K hK => ?st176) AllReadyH.nil)
        case ho175 => (simp only [gA, gB, gC]; rfl)
        case ho176 => (simp only [gA, gB, gC]; rfl)
        · go_simp
          refine (H0.out _ (And.left (And.left hHeld))).mono ?_; rintro e wA ⟨rfl, hbA⟩; have hSA := HKP.out _ _ hHeld hbA
          refine hK.out _ _ ?_ (fun hHeld => ?_)
          · (try dsimp only); exact hSA
          clear hK K
          (try simp only [Act.put, sA, sB, sC])
          refine wpAnyH_ready (rs := [6]) (by kernel_rfl) (by simp) ?_
          refine AllReadyH.cons (o := ?o177) ?ho177 (fun K hK => ?st177) AllReadyH.nil
          case ho177 => (simp only [gA, gB, gC]; rfl)
          go_simp
          refine hK.out _ _ ?_ (fun hHeld => ?_)
          · (try dsimp only); exact HKP.out _ _ hSA (alloc1 _ _)
          clear hK K
          (try simp only [Act.put, sA, sB, sC])
          refine wpAnyH_ready (rs := [7]) (by kernel_rfl) (by simp) ?_
          refine AllReadyH.cons (o := ?o178) ?ho178 (fun K hK => ?st178) AllReadyH.nil
          case ho178 => (simp only [gA, gB, gC]; rfl)
          go_simp
          refine hK.out _ _ ?_ (fun hHeld => ?_)
          · (try dsimp only); exact HKP.out _ _ hSA (alloc1 _ _)
          clear hK K
          (try simp only [Act.put, sA, sB, sC])
          refine wpAnyH_done (by kernel_rfl) ?_ _
          go_wp2_with fail
          go_meet
          exact ⟨_, rfl, hSA.1.2.1, hHeld.1, Bx.new _ r1⟩
        · go_simp
          refine hK.out _ _ ?_ (fun hHeld => ?_)
          · (try dsimp only); exact HKP.out _ _ hS0 (alloc1 _ _)
          clear hK K
          (try simp only [Act.put, sA, sB, sC])
          refine wpAnyH_ready (rs := [5]) (by kernel_rfl) (by simp) ?_
          refine AllReadyH.cons (o := ?o179) ?ho179 (fun K hK => ?st179) AllReadyH.nil
          case ho179 => (simp only [gA, gB, gC]; rfl)
          go_simp
          refine (H0.out _ (And.left (And.left hHeld))).mono ?_; rintro e wA ⟨rfl, hbA⟩; have hSA := HKP.out _ _ hHeld hbA; obtain ⟨e0, e1, e2, e3, e4, ef⟩ := newcells hbA
          refine hK.out _ _ ?_ (fun hHeld => ?_)
          · (try dsimp only); exact hSA
          clear hK K
          (try simp only [Act.put, sA, sB, sC])
          refine wpAnyH_ready (rs := [7]) (by kernel_rfl) (by simp) ?_
          refine AllReadyH.cons (o := ?o180) ?ho180 (fun K hK => ?st180) AllReadyH.nil
          case ho180 => (simp only [gA, gB, gC]; rfl)
          go_simp
          refine hK.out _ _ ?_ (fun hHeld => ?_)
          · (try dsimp only); exact HKS.out _ _ _ _ _ _ _ htb.2.1 hSA
          clear hK K
          (try simp only [Act.put, sA, sB, sC])
          refine wpAnyH_done (by kernel_rfl) ?_ _
          go_wp2_with fail
          go_meet
          exact ⟨_, rfl, htb.2.1, hHeld.1, bx_set e0 e1 e2 e3 e4⟩
      case rest =>
        clear htb HHELD HKP HKS
        obtain ⟨b, rfl, hbge, hTB, hx0, hx1, hx2, hx3, hx4⟩ := hcut
        obtain ⟨d0, d1, d2, d3, d4, d5, d6, d7⟩ := hTB.2.2.2.2.1
        have g0 := hTB.2.2.1
        have g1 := hTB.2.2.2.1
        have hb := HBB.out
        rw [hb] at hx2
        clear hb
        obtain ⟨s1, s2⟩ := R2
        by_cases hz2 : s2 = 0
        · subst hz2
          have h2 := fun W hb => (H2.out W hb).mono (fun e w' h => (⟨h.1.trans (if_pos rfl), h.2⟩ : e = .returned (agV s1) ∧ Below W.heap.size W w'))
          clear H2
          have H2 := Lib.hid h2
          clear h2
          have HT := Lib.hid (fun W (hb : TC w FA fn FC VA vn VC 13 (some ad) n c nm v W) => (show THeldK w FA fn FC VA vn VC 13 ad n c ⟨ad.block, ad.off + 16, none⟩ p2 A2 n2 c2 m2 y2 W from let q := HQ2.out W hb.1; ⟨hb.2.2.1, hb.2.2.2.1, hb.2.2.2.2.1, hb.2.2.2.2.2.1, q.1, q.2.1, q.2.2.1, q.2.2.2.1, q.2.2.2.2.1, q.2.2.2.2.2.1, q.2.2.2.2.2.2.1, q.2.2.2.2.2.2.2⟩))
          have HK1 := Lib.hid (fun (W W' : World) (h : (TC w FA fn FC VA vn VC 13 (some ad) n c nm v W ∧ THeldK w FA fn FC VA vn VC 13 ad n c ⟨ad.block, ad.off + 16, none⟩ p2 A2 n2 c2 m2 y2 W)) (hb : Below W.heap.size W W') => (show (TC w FA fn FC VA vn VC 13 (some ad) n c nm v W' ∧ THeldK w FA fn FC VA vn VC 13 ad n c ⟨ad.block, ad.off + 16, none⟩ p2 A2 n2 c2 m2 y2 W') from ⟨h.1.below2 (hb.mono h.1.2.1), HT.out _ (h.1.below2 (hb.mono h.1.2.1))⟩))
          have HKZ := Lib.hid (fun (W : World) (u0 u1 u2 u3 u4 : Value) (h : (TC w FA fn FC VA vn VC 13 (some ad) n c nm v W ∧ THeldK w FA fn FC VA vn VC 13 ad n c ⟨ad.block, ad.off + 16, none⟩ p2 A2 n2 c2 m2 y2 W)) => let hb := below_set5 (Below.refl (w.heap.size + 2) W) (show w.heap.size + 2 ≤ w.heap.size + 1 + 1 by omega) u0 u1 u2 u3 u4; (show (TC w FA fn FC VA vn VC 13 (some ad) n c nm v (((((W.setCell ⟨w.heap.size + 1 + 1, 0, none⟩ u0).setCell ⟨w.heap.size + 1 + 1, 1, none⟩ u1).setCell ⟨w.heap.size + 1 + 1, 2, none⟩ u2).setCell ⟨w.heap.size + 1 + 1, 3, none⟩ u3).setCell ⟨w.heap.size + 1 + 1, 4, none⟩ u4) ∧ THeldK w FA fn FC VA vn VC 13 ad n c ⟨ad.block, ad.off + 16, none⟩ p2 A2 n2 c2 m2 y2 (((((W.setCell ⟨w.heap.size + 1 + 1, 0, none⟩ u0).setCell ⟨w.heap.size + 1 + 1, 1, none⟩ u1).setCell ⟨w.heap.size + 1 + 1, 2, none⟩ u2).setCell ⟨w.heap.size + 1 + 1, 3, none⟩ u3).setCell ⟨w.heap.size + 1 + 1, 4, none⟩ u4)) from ⟨h.1.below2 hb, HT.out _ (h.1.below2 hb)⟩))
          have hS1 : (fun W => (TC w FA fn FC VA vn VC 13 (some ad) n c nm v W ∧ THeldK w FA fn FC VA vn VC 13 ad n c ⟨ad.block, ad.off + 16, none⟩ p2 A2 n2 c2 m2 y2 W)) wc.drew := ⟨hTB.tc.below2 (Below.refl _ _).drew, HT.out _ (hTB.tc.below2 (Below.refl _ _).drew)⟩
          have HTB := Lib.hid hTB
          go_wp2_with fail
          refine wp_region_held_drew (S := (fun W => (TC w FA fn FC VA vn VC 13 (some ad) n c nm v W ∧ THeldK w FA fn FC VA vn VC 13 ad n c ⟨ad.block, ad.off + 16, none⟩ p2 A2 n2 c2 m2 y2 W))) (by kernel_rfl) (hS1) (fun hHeld => ?_)
          refine wpAnyH_take (i := 0) (oi := ?oi144) (v := ?v144) ?hi144 (by kernel_rfl) (by kernel_rfl) (by kernel_rfl) ?hQ144 (Or.inl ⟨?hw144, ?hy144⟩) (by assumption) ?rest144
          case hi144 => (simp only [gA, gB, gC]; rfl)
          case hQ144 => exact fun _ _ _ h => h
          case hw144 => rfl
          case hy144 => (intro w hSw; (try dsimp only at hSw); go_simp; try with_reducible rfl)
          (try simp only [Act.put, sA, sB, sC])
          refine wpAnyH_take (i := 1) (oi := ?oi145) (v := ?v145) ?hi145 (by kernel_rfl) (by kernel_rfl) (by kernel_rfl) ?hQ145 (Or.inl ⟨?hw145, ?hy145⟩) (by assumption) ?rest145
          case hi145 => (simp only [gA, gB, gC]; rfl)
          case hQ145 => exact fun _ _ _ h => h
          case hw145 => rfl
          case hy145 => (intro w hSw; (try dsimp only at hSw); go_simp; try with_reducible rfl)
          (try simp only [Act.put, sA, sB, sC])
          refine wpAnyH_take (i := 2) (oi := ?oi146) (v := ?v146) ?hi146 (by kernel_rfl) (by kernel_rfl) (by kernel_rfl) ?hQ146 (Or.inl ⟨?hw146, ?hy146⟩) (by assumption) ?rest146
          case hi146 => (simp only [gA, gB, gC]; rfl)
          case hQ146 => exact fun _ _ _ h => h
          case hw146 => rfl
          case hy146 => (intro w hSw; (try dsimp only at hSw); go_simp; try with_reducible rfl)
          (try simp only [Act.put, sA, sB, sC])
          refine wpAnyH_take (i := 3) (oi := ?oi147) (v := ?v147) ?hi147 (by kernel_rfl) (by kernel_rfl) (by kernel_rfl) ?hQ147 (Or.inl ⟨?hw147, ?hy147⟩) (by assumption) ?rest147
          case hi147 => (simp only [gA, gB, gC]; rfl)
          case hQ147 => exact fun _ _ _ h => h
          case hw147 => rfl
          case hy147 => (intro w hSw; (try dsimp only at hSw); go_simp; try with_reducible rfl)
          (try simp only [Act.put, sA, sB, sC])
          refine wpAnyH_take (i := 4) (oi := ?oi148) (v := ?v148) ?hi148 (by kernel_rfl) (by kernel_rfl) (by kernel_rfl) ?hQ148 (Or.inl ⟨?hw148, ?hy148⟩) (by assumption) ?rest148
          case hi148 => (simp only [gA, gB, gC]; rfl)
          case hQ148 => exact fun _ _ _ h => h
          case hw148 => rfl
          case hy148 => (intro w hSw; (try dsimp only at hSw); go_simp; try with_reducible rfl)
          (try simp only [Act.put, sA, sB, sC])
          refine wpAnyH_ready (rs := [5]) (by kernel_rfl) (by simp) ?_
          refine AllReadyH.cons (o := ?o149) ?ho149 (fun K hK => ?st149) AllReadyH.nil
          case ho149 => (simp only [gA, gB, gC]; rfl)
          go_simp
          refine (H2.out _ hHeld.1.1).mono ?_; rintro e w2 ⟨rfl, hb2⟩; obtain ⟨ou0, ou1, ou2, ou3, ou4, ov0, ov1, ov2, ov3, ov4, ovf⟩ := TB.out ((HTB.out.below (Below.refl _ _).drew).below hb2)
          refine hK.out _ _ ?_ (fun hHeld => ?_)
          · (try dsimp only); exact HK1.out _ _ hHeld hb2
          clear hK K
          (try simp only [Act.put, sA, sB, sC])
          refine wpAnyH_ready (rs := [6]) (by kernel_rfl) (by simp) ?_
          refine AllReadyH.cons (o := ?o150) ?ho150 (fun K hK => ?st150) AllReadyH.nil
          case ho150 => (simp only [gA, gB, gC]; rfl)
          go_simp
          refine hK.out _ _ ?_ (fun hHeld => ?_)
          · (try dsimp only); exact HKZ.out _ _ _ _ _ _ hHeld
          clear hK K
          (try simp only [Act.put, sA, sB, sC])
          refine wpAnyH_done (by kernel_rfl) ?_ _
          go_wp2_with fail
          exact bodyPost_ret (v := agV s1) (by simp [results, Tryz.results257, go_sem, ov0, ov1, ov2, ov3, ov4]) rfl ⟨rfl, TB.done ((HTB.out.below (Below.refl _ _).drew).below hb2) _ _ _ _ _⟩
        · have h2 := fun W hb => (H2.out W hb).mono (fun e w' h => (⟨h.1.trans (if_neg hz2), h.2⟩ : e = .panicked (PV s2) ∧ Below W.heap.size W w'))
          clear H2
          have H2 := Lib.hid h2
          have HZ2 := Lib.hid hz2
          clear h2 hz2
          have HT := Lib.hid (fun W (hb : TC w FA fn FC VA vn VC 13 (some ad) n c nm v W) => (show THeldK w FA fn FC VA vn VC 13 ad n c ⟨ad.block, ad.off + 16, none⟩ p2 A2 n2 c2 m2 y2 W from let q := HQ2.out W hb.1; ⟨hb.2.2.1, hb.2.2.2.1, hb.2.2.2.2.1, hb.2.2.2.2.2.1, q.1, q.2.1, q.2.2.1, q.2.2.2.1, q.2.2.2.2.1, q.2.2.2.2.2.1, q.2.2.2.2.2.2.1, q.2.2.2.2.2.2.2⟩))
          have HK1 := Lib.hid (fun (W W' : World) (h : (TC w FA fn FC VA vn VC 13 (some ad) n c nm v W ∧ THeldK w FA fn FC VA vn VC 13 ad n c ⟨ad.block, ad.off + 16, none⟩ p2 A2 n2 c2 m2 y2 W)) (hb : Below W.heap.size W W') => (show (TC w FA fn FC VA vn VC 13 (some ad) n c nm v W' ∧ THeldK w FA fn FC VA vn VC 13 ad n c ⟨ad.block, ad.off + 16, none⟩ p2 A2 n2 c2 m2 y2 W') from ⟨h.1.below2 (hb.mono h.1.2.1), HT.out _ (h.1.below2 (hb.mono h.1.2.1))⟩))
          have HKZ := Lib.hid (fun (W : World) (u0 u1 u2 u3 u4 : Value) (h : (TC w FA fn FC VA vn VC 13 (some ad) n c nm v W ∧ THeldK w FA fn FC VA vn VC 13 ad n c ⟨ad.block, ad.off + 16, none⟩ p2 A2 n2 c2 m2 y2 W)) => let hb := below_set5 (Below.refl (w.heap.size + 2) W) (show w.heap.size + 2 ≤ w.heap.size + 1 + 1 by omega) u0 u1 u2 u3 u4; (show (TC w FA fn FC VA vn VC 13 (some ad) n c nm v (((((W.setCell ⟨w.heap.size + 1 + 1, 0, none⟩ u0).setCell ⟨w.heap.size + 1 + 1, 1, none⟩ u1).setCell ⟨w.heap.size + 1 + 1, 2, none⟩ u2).setCell ⟨w.heap.size + 1 + 1, 3, none⟩ u3).setCell ⟨w.heap.size + 1 + 1, 4, none⟩ u4) ∧ THeldK w FA fn FC VA vn VC 13 ad n c ⟨ad.block, ad.off + 16, none⟩ p2 A2 n2 c2 m2 y2 (((((W.setCell ⟨w.heap.size + 1 + 1, 0, none⟩ u0).setCell ⟨w.heap.size + 1 + 1, 1, none⟩ u1).setCell ⟨w.heap.size + 1 + 1, 2, none⟩ u2).setCell ⟨w.heap.size + 1 + 1, 3, none⟩ u3).setCell ⟨w.heap.size + 1 + 1, 4, none⟩ u4)) from ⟨h.1.below2 hb, HT.out _ (h.1.below2 hb)⟩))
          have hS1 : (fun W => (TC w FA fn FC VA vn VC 13 (some ad) n c nm v W ∧ THeldK w FA fn FC VA vn VC 13 ad n c ⟨ad.block, ad.off + 16, none⟩ p2 A2 n2 c2 m2 y2 W)) wc.drew := ⟨hTB.tc.below2 (Below.refl _ _).drew, HT.out _ (hTB.tc.below2 (Below.refl _ _).drew)⟩
          have HTB := Lib.hid hTB
          go_wp2_with fail
          refine wp_region_held_drew (S := (fun W => (TC w FA fn FC VA vn VC 13 (some ad) n c nm v W ∧ THeldK w FA fn FC VA vn VC 13 ad n c ⟨ad.block, ad.off + 16, none⟩ p2 A2 n2 c2 m2 y2 W))) (by kernel_rfl) (hS1) (fun hHeld => ?_)
          refine wpAnyH_take (i := 0) (oi := ?oi151) (v := ?v151) ?hi151 (by kernel_rfl) (by kernel_rfl) (by kernel_rfl) ?hQ151 (Or.inl ⟨?hw151, ?hy151⟩) (by assumption) ?rest151
          case hi151 => (simp only [gA, gB, gC]; rfl)
          case hQ151 => exact fun _ _ _ h => h
          case hw151 => rfl
          case hy151 => (intro w hSw; (try dsimp only at hSw); go_simp; try with_reducible rfl)
          (try simp only [Act.put, sA, sB, sC])
          refine wpAnyH_take (i := 1) (oi := ?oi152) (v := ?v152) ?hi152 (by kernel_rfl) (by kernel_rfl) (by kernel_rfl) ?hQ152 (Or.inl ⟨?hw152, ?hy152⟩) (by assumption) ?rest152
          case hi152 => (simp only [gA, gB, gC]; rfl)
          case hQ152 => exact fun _ _ _ h => h
          case hw152 => rfl
          case hy152 => (intro w hSw; (try dsimp only at hSw); go_simp; try with_reducible rfl)
          (try simp only [Act.put, sA, sB, sC])
          refine wpAnyH_take (i := 2) (oi := ?oi153) (v := ?v153) ?hi153 (by kernel_rfl) (by kernel_rfl) (by kernel_rfl) ?hQ153 (Or.inl ⟨?hw153, ?hy153⟩) (by assumption) ?rest153
          case hi153 => (simp only [gA, gB, gC]; rfl)
          case hQ153 => exact fun _ _ _ h => h
          case hw153 => rfl
          case hy153 => (intro w hSw; (try dsimp only at hSw); go_simp; try with_reducible rfl)
          (try simp only [Act.put, sA, sB, sC])
          refine wpAnyH_take (i := 3) (oi := ?oi154) (v := ?v154) ?hi154 (by kernel_rfl) (by kernel_rfl) (by kernel_rfl) ?hQ154 (Or.inl ⟨?hw154, ?hy154⟩) (by assumption) ?rest154
          case hi154 => (simp only [gA, gB, gC]; rfl)
          case hQ154 => exact fun _ _ _ h => h
          case hw154 => rfl
          case hy154 => (intro w hSw; (try dsimp only at hSw); go_simp; try with_reducible rfl)
          (try simp only [Act.put, sA, sB, sC])
          refine wpAnyH_take (i := 4) (oi := ?oi155) (v := ?v155) ?hi155 (by kernel_rfl) (by kernel_rfl) (by kernel_rfl) ?hQ155 (Or.inl ⟨?hw155, ?hy155⟩) (by assumption) ?rest155
          case hi155 => (simp only [gA, gB, gC]; rfl)
          case hQ155 => exact fun _ _ _ h => h
          case hw155 => rfl
          case hy155 => (intro w hSw; (try dsimp only at hSw); go_simp; try with_reducible rfl)
          (try simp only [Act.put, sA, sB, sC])
          refine wpAnyH_ready (rs := [5]) (by kernel_rfl) (by simp) ?_
          refine AllReadyH.cons (o := ?o156) ?ho156 (fun K hK => ?st156) AllReadyH.nil
          case ho156 => (simp only [gA, gB, gC]; rfl)
          go_simp
          refine (H2.out _ hHeld.1.1).mono ?_; rintro e w2 ⟨rfl, hb2⟩
          exact ⟨rfl, (if_neg HZ2.out).symm, ((HTB.out.below (Below.refl _ _).drew).below hb2).1⟩
    · rw [if_pos rfl]
      have HBB := Lib.hid hb
      clear hb
      have htb : TB w FA fn FC VA vn VC 13 (some ad) n c nm v (((w.alloc (.cells #[.slice FA fn FC, .slice VA vn VC] 248)).alloc (.cells #[.int .i64 13, .slice (some ad) n c, .string nm, .int .i64 v.k, .int .i64 v.i, .bool v.b, .string v.s, .float .f64 v.n] 75)).alloc (.cells #[.int .i64 0, .int .i64 0, .bool false, .string { data := #[] }, .float .f64 0] 55)) := TB_new w FA fn FC VA vn VC 13 (some ad) n c nm v
      have HHELD := Lib.hid (fun W (hb : TB w FA fn FC VA vn VC 13 (some ad) n c nm v W) => (show THeld w FA fn FC VA vn VC ad n c p0 A0 n0 c0 m0 y0 W from let q := hq0 W hb.1; ⟨hb.2.2.1, hb.2.2.2.1, hb.2.2.2.2.1.2.1, q.1, q.2.1, q.2.2.1, q.2.2.2.1, q.2.2.2.2.1, q.2.2.2.2.2.1, q.2.2.2.2.2.2.1, q.2.2.2.2.2.2.2⟩))
      clear hq0
      have HKP := Lib.hid (fun (W W' : World) (h : TB w FA fn FC VA vn VC 13 (some ad) n c nm v W ∧ THeld w FA fn FC VA vn VC ad n c p0 A0 n0 c0 m0 y0 W) (hb : Below W.heap.size W W') => And.intro (h.1.below hb) (HHELD.out _ (h.1.below hb)))
      have HKS := Lib.hid (fun (W : World) (b : Nat) (u0 u1 u2 u3 u4 : Value) (hge : w.heap.size + 3 ≤ b) (h : TB w FA fn FC VA vn VC 13 (some ad) n c nm v W ∧ THeld w FA fn FC VA vn VC ad n c p0 A0 n0 c0 m0 y0 W) => let hb := below_set5 (Below.refl (w.heap.size + 3) W) hge u0 u1 u2 u3 u4; And.intro (h.1.below3 hb) (HHELD.out _ (h.1.below3 hb)))
      go_enter Tryz.func257, Tryz.ntmps257
      go_upto_region 6 with fail
      generalize ((w.alloc (.cells #[.slice FA fn FC, .slice VA vn VC] 248)).alloc (.cells #[.int .i64 13, .slice (some ad) n c, .string nm, .int .i64 v.k, .int .i64 v.i, .bool v.b, .string v.s, .float .f64 v.n] 75)).alloc (.cells #[.int .i64 0, .int .i64 0, .bool false, .string { data := #[] }, .float .f64 0] 55) = wb at *
      go_cut [5] from 23 to 28 (fun s5 wx => ∃ b, s5 = .pointer (some ⟨b, 0, none⟩) ∧ w.heap.size + 3 ≤ b ∧ TB w FA fn FC VA vn VC 13 (some ad) n c nm v wx ∧ Bx wx b r1)
      case first =>
        have hS0 : TB w FA fn FC VA vn VC 13 (some ad) n c nm v wb.drew ∧ THeld w FA fn FC VA vn VC ad n c p0 A0 n0 c0 m0 y0 wb.drew := ⟨htb.below (Below.refl _ _).drew, HHELD.out _ (htb.below (Below.refl _ _).drew)⟩
        refine wp_region_held_drew (S := (fun W => TB w FA fn FC VA vn VC 13 (some ad) n c nm v W ∧ THeld w FA fn FC VA vn VC ad n c p0 A0 n0 c0 m0 y0 W)) (by kernel_rfl) (hS0) (fun hHeld => ?_)
        refine wpAnyH_take (i := 0) (oi := ?oi181) (v := ?v181) ?hi181 (by kernel_rfl) (by kernel_rfl) (by kernel_rfl) ?hQ181 (Or.inl ⟨?hw181, ?hy181⟩) (by assumption) ?rest181
        case hi181 => (simp only [gA, gB, gC]; rfl)
        case hQ181 => exact fun _ _ _ h => h
        case hw181 => rfl
        case hy181 => (intro w hSw; (try dsimp only at hSw); go_simp; try with_reducible rfl)
        (try simp only [Act.put, sA, sB, sC])
        refine wpAnyH_take (i := 1) (oi := ?oi182) (v := ?v182) ?hi182 (by kernel_rfl) (by kernel_rfl) (by kernel_rfl) ?hQ182 (Or.inl ⟨?hw182, ?hy182⟩) (by assumption) ?rest182
        case hi182 => (simp only [gA, gB, gC]; rfl)
        case hQ182 => exact fun _ _ _ h => h
        case hw182 => rfl
        case hy182 => (intro w hSw; (try dsimp only at hSw); go_simp; try with_reducible rfl)
        (try simp only [Act.put, sA, sB, sC])
        refine wpAnyH_take (i := 2) (oi := ?oi183) (v := ?v183) ?hi183 (by kernel_rfl) (by kernel_rfl) (by kernel_rfl) ?hQ183 (Or.inl ⟨?hw183, ?hy183⟩) (by assumption) ?rest183
        case hi183 => (simp only [gA, gB, gC]; rfl)
        case hQ183 => exact fun _ _ _ h => h
        case hw183 => rfl
        case hy183 => (intro w hSw; (try dsimp only at hSw); go_simp; try with_reducible rfl)
        (try simp only [Act.put, sA, sB, sC])
        refine wpAnyH_take (i := 3) (oi := ?oi184) (v := ?v184) ?hi184 (by kernel_rfl) (by kernel_rfl) (by kernel_rfl) ?hQ184 (Or.inl ⟨?hw184, ?hy184⟩) (by assumption) ?rest184
        case hi184 => (simp only [gA, gB, gC]; rfl)
        case hQ184 => exact fun _ _ _ h => h
        case hw184 => rfl
        case hy184 => (intro w hSw; (try dsimp only at hSw); go_simp; try with_reducible rfl)
        (try simp only [Act.put, sA, sB, sC])
        refine wpAnyH_take (i := 4) (oi := ?oi185) (v := ?v185) ?hi185 (by kernel_rfl) (by kernel_rfl) (by kernel_rfl) ?hQ185 (Or.inl ⟨?hw185, ?hy185⟩) (by assumption) ?rest185
        case hi185 => (simp only [gA, gB, gC]; rfl)
        case hQ185 => exact fun _ _ _ h => h
        case hw185 => rfl
        case hy185 => (intro w hSw; (try dsimp only at hSw); go_simp; try with_reducible rfl)
        (try simp only [Act.put, sA, sB, sC])
        refine wpAnyH_ready (rs := [5, 6]) (by kernel_rfl) (by simp) ?_
        refine AllReadyH.cons (o := ?o186) ?ho186 (fun K hK => ?st186) (AllReadyH.cons (o := ?o187) ?ho187 (fun K hK => ?st187) AllReadyH.nil)
        case ho186 => (simp only [gA, gB, gC]; rfl)
        case ho187 => (simp only [gA, gB, gC]; rfl)
        · go_simp
          refine (H0.out _ (And.left (And.left hHeld))).mono ?_; rintro e wA ⟨rfl, hbA⟩; have hSA := HKP.out _ _ hHeld hbA
          refine hK.out _ _ ?_ (fun hHeld => ?_)
          · (try dsimp only); exact hSA
          clear hK K
          (try simp only [Act.put, sA, sB, sC])
          refine wpAnyH_ready (rs := [6]) (by kernel_rfl) (by simp) ?_
          refine AllReadyH.cons (o := ?o188) ?ho188 (fun K hK => ?st188) AllReadyH.nil
          case ho188 => (simp only [gA, gB, gC]; rfl)
          go_simp
          refine hK.out _ _ ?_ (fun hHeld => ?_)
          · (try dsimp only); exact HKP.out _ _ hSA (alloc1 _ _)
          clear hK K
          (try simp only [Act.put, sA, sB, sC])
          refine wpAnyH_ready (rs := [7]) (by kernel_rfl) (by simp) ?_
          refine AllReadyH.cons (o := ?o189) ?ho189 (fun K hK => ?st189) AllReadyH.nil
          case ho189 => (simp only [gA, gB, gC]; rfl)
          go_simp
          refine hK.out _ _ ?_ (fun hHeld => ?_)
          · (try dsimp only); exact HKP.out _ _ hSA (alloc1 _ _)
          clear hK K
          (try simp only [Act.put, sA, sB, sC])
          refine wpAnyH_done (by kernel_rfl) ?_ _
          go_wp2_with fail
          go_meet
          exact ⟨_, rfl, hSA.1.2.1, hHeld.1, Bx.new _ r1⟩
        · go_simp
          refine hK.out _ _ ?_ (fun hHeld => ?_)
          · (try dsimp only); exact HKP.out _ _ hS0 (alloc1 _ _)
          clear hK K
          (try simp only [Act.put, sA, sB, sC])
          refine wpAnyH_ready (rs := [5]) (by kernel_rfl) (by simp) ?_
          refine AllReadyH.cons (o := ?o190) ?ho190 (fun K hK => ?st190) AllReadyH.nil
          case ho190 => (simp only [gA, gB, gC]; rfl)
          go_simp
          refine (H0.out _ (And.left (And.left hHeld))).mono ?_; rintro e wA ⟨rfl, hbA⟩; have hSA := HKP.out _ _ hHeld hbA; obtain ⟨e0, e1, e2, e3, e4, ef⟩ := newcells hbA
          refine hK.out _ _ ?_ (fun hHeld => ?_)
          · (try dsimp only); exact hSA
          clear hK K
          (try simp only [Act.put, sA, sB, sC])
          refine wpAnyH_ready (rs := [7]) (by kernel_rfl) (by simp) ?_
          refine AllReadyH.cons (o := ?o191) ?ho191 (fun K hK => ?st191) AllReadyH.nil
          case ho191 => (simp only [gA, gB, gC]; rfl)
          go_simp
          refine hK.out _ _ ?_ (fun hHeld => ?_)
          · (try dsimp only); exact HKS.out _ _ _ _ _ _ _ htb.2.1 hSA
          clear hK K
          (try simp only [Act.put, sA, sB, sC])
          refine wpAnyH_done (by kernel_rfl) ?_ _
          go_wp2_with fail
          go_meet
          exact ⟨_, rfl, htb.2.1, hHeld.1, bx_set e0 e1 e2 e3 e4⟩
      case rest =>
        clear htb HHELD HKP HKS
        obtain ⟨b, rfl, hbge, hTB, hx0, hx1, hx2, hx3, hx4⟩ := hcut
        obtain ⟨d0, d1, d2, d3, d4, d5, d6, d7⟩ := hTB.2.2.2.2.1
        have g0 := hTB.2.2.1
        have g1 := hTB.2.2.2.1
        have hb := HBB.out
        rw [hb] at hx2
        clear hb
        obtain ⟨s1, s2⟩ := R1
        by_cases hz1 : s2 = 0
        · subst hz1
          have h1 := fun W hb => (H1.out W hb).mono (fun e w' h => (⟨h.1.trans (if_pos rfl), h.2⟩ : e = .returned (agV s1) ∧ Below W.heap.size W w'))
          clear H1
          have H1 := Lib.hid h1
          clear h1
          have HT := Lib.hid (fun W (hb : TC w FA fn FC VA vn VC 13 (some ad) n c nm v W) => (show THeldK w FA fn FC VA vn VC 13 ad n c ⟨ad.block, ad.off + 8, none⟩ p1 A1 n1 c1 m1 y1 W from let q := HQ1.out W hb.1; ⟨hb.2.2.1, hb.2.2.2.1, hb.2.2.2.2.1, hb.2.2.2.2.2.1, q.1, q.2.1, q.2.2.1, q.2.2.2.1, q.2.2.2.2.1, q.2.2.2.2.2.1, q.2.2.2.2.2.2.1, q.2.2.2.2.2.2.2⟩))
          have HK1 := Lib.hid (fun (W W' : World) (h : (TC w FA fn FC VA vn VC 13 (some ad) n c nm v W ∧ THeldK w FA fn FC VA vn VC 13 ad n c ⟨ad.block, ad.off + 8, none⟩ p1 A1 n1 c1 m1 y1 W)) (hb : Below W.heap.size W W') => (show (TC w FA fn FC VA vn VC 13 (some ad) n c nm v W' ∧ THeldK w FA fn FC VA vn VC 13 ad n c ⟨ad.block, ad.off + 8, none⟩ p1 A1 n1 c1 m1 y1 W') from ⟨h.1.below2 (hb.mono h.1.2.1), HT.out _ (h.1.below2 (hb.mono h.1.2.1))⟩))
          have HKZ := Lib.hid (fun (W : World) (u0 u1 u2 u3 u4 : Value) (h : (TC w FA fn FC VA vn VC 13 (some ad) n c nm v W ∧ THeldK w FA fn FC VA vn VC 13 ad n c ⟨ad.block, ad.off + 8, none⟩ p1 A1 n1 c1 m1 y1 W)) => let hb := below_set5 (Below.refl (w.heap.size + 2) W) (show w.heap.size + 2 ≤ w.heap.size + 1 + 1 by omega) u0 u1 u2 u3 u4; (show (TC w FA fn FC VA vn VC 13 (some ad) n c nm v (((((W.setCell ⟨w.heap.size + 1 + 1, 0, none⟩ u0).setCell ⟨w.heap.size + 1 + 1, 1, none⟩ u1).setCell ⟨w.heap.size + 1 + 1, 2, none⟩ u2).setCell ⟨w.heap.size + 1 + 1, 3, none⟩ u3).setCell ⟨w.heap.size + 1 + 1, 4, none⟩ u4) ∧ THeldK w FA fn FC VA vn VC 13 ad n c ⟨ad.block, ad.off + 8, none⟩ p1 A1 n1 c1 m1 y1 (((((W.setCell ⟨w.heap.size + 1 + 1, 0, none⟩ u0).setCell ⟨w.heap.size + 1 + 1, 1, none⟩ u1).setCell ⟨w.heap.size + 1 + 1, 2, none⟩ u2).setCell ⟨w.heap.size + 1 + 1, 3, none⟩ u3).setCell ⟨w.heap.size + 1 + 1, 4, none⟩ u4)) from ⟨h.1.below2 hb, HT.out _ (h.1.below2 hb)⟩))
          have hS1 : (fun W => (TC w FA fn FC VA vn VC 13 (some ad) n c nm v W ∧ THeldK w FA fn FC VA vn VC 13 ad n c ⟨ad.block, ad.off + 8, none⟩ p1 A1 n1 c1 m1 y1 W)) wc.drew := ⟨hTB.tc.below2 (Below.refl _ _).drew, HT.out _ (hTB.tc.below2 (Below.refl _ _).drew)⟩
          have HTB := Lib.hid hTB
          go_wp2_with fail
          refine wp_region_held_drew (S := (fun W => (TC w FA fn FC VA vn VC 13 (some ad) n c nm v W ∧ THeldK w FA fn FC VA vn VC 13 ad n c ⟨ad.block, ad.off + 8, none⟩ p1 A1 n1 c1 m1 y1 W))) (by kernel_rfl) (hS1) (fun hHeld => ?_)
          refine wpAnyH_take (i := 0) (oi := ?oi157) (v := ?v157) ?hi157 (by kernel_rfl) (by kernel_rfl) (by kernel_rfl) ?hQ157 (Or.inl ⟨?hw157, ?hy157⟩) (by assumption) ?rest157
          case hi157 => (simp only [gA, gB, gC]; rfl)
          case hQ157 => exact fun _ _ _ h => h
          case hw157 => rfl
          case hy157 => (intro w hSw; (try dsimp only at hSw); go_simp; try with_reducible rfl)
          (try simp only [Act.put, sA, sB, sC])
          refine wpAnyH_take (i := 1) (oi := ?oi158) (v := ?v158) ?hi158 (by kernel_rfl) (by kernel_rfl) (by kernel_rfl) ?hQ158 (Or.inl ⟨?hw158, ?hy158⟩) (by assumption) ?rest158
          case hi158 => (simp only [gA, gB, gC]; rfl)
          case hQ158 => exact fun _ _ _ h => h
          case hw158 => rfl
          case hy158 => (intro w hSw; (try dsimp only at hSw); go_simp; try with_reducible rfl)
          (try simp only [Act.put, sA, sB, sC])
          refine wpAnyH_take (i := 2) (oi := ?oi159) (v := ?v159) ?hi159 (by kernel_rfl) (by kernel_rfl) (by kernel_rfl) ?hQ159 (Or.inl ⟨?hw159, ?hy159⟩) (by assumption) ?rest159
          case hi159 => (simp only [gA, gB, gC]; rfl)
          case hQ159 => exact fun _ _ _ h => h
          case hw159 => rfl
          case hy159 => (intro w hSw; (try dsimp only at hSw); go_simp; try with_reducible rfl)
          (try simp only [Act.put, sA, sB, sC])
          refine wpAnyH_take (i := 3) (oi := ?oi160) (v := ?v160) ?hi160 (by kernel_rfl) (by kernel_rfl) (by kernel_rfl) ?hQ160 (Or.inl ⟨?hw160, ?hy160⟩) (by assumption) ?rest160
          case hi160 => (simp only [gA, gB, gC]; rfl)
          case hQ160 => exact fun _ _ _ h => h
          case hw160 => rfl
          case hy160 => (intro w hSw; (try dsimp only at hSw); go_simp; try with_reducible rfl)
          (try simp only [Act.put, sA, sB, sC])
          refine wpAnyH_take (i := 4) (oi := ?oi161) (v := ?v161) ?hi161 (by kernel_rfl) (by kernel_rfl) (by kernel_rfl) ?hQ161 (Or.inl ⟨?hw161, ?hy161⟩) (by assumption) ?rest161
          case hi161 => (simp only [gA, gB, gC]; rfl)
          case hQ161 => exact fun _ _ _ h => h
          case hw161 => rfl
          case hy161 => (intro w hSw; (try dsimp only at hSw); go_simp; try with_reducible rfl)
          (try simp only [Act.put, sA, sB, sC])
          refine wpAnyH_ready (rs := [5]) (by kernel_rfl) (by simp) ?_
          refine AllReadyH.cons (o := ?o162) ?ho162 (fun K hK => ?st162) AllReadyH.nil
          case ho162 => (simp only [gA, gB, gC]; rfl)
          go_simp
          refine (H1.out _ hHeld.1.1).mono ?_; rintro e w2 ⟨rfl, hb2⟩; obtain ⟨ou0, ou1, ou2, ou3, ou4, ov0, ov1, ov2, ov3, ov4, ovf⟩ := TB.out ((HTB.out.below (Below.refl _ _).drew).below hb2)
          refine hK.out _ _ ?_ (fun hHeld => ?_)
          · (try dsimp only); exact HK1.out _ _ hHeld hb2
          clear hK K
          (try simp only [Act.put, sA, sB, sC])
          refine wpAnyH_ready (rs := [6]) (by kernel_rfl) (by simp) ?_
          refine AllReadyH.cons (o := ?o163) ?ho163 (fun K hK => ?st163) AllReadyH.nil
          case ho163 => (simp only [gA, gB, gC]; rfl)
          go_simp
          refine hK.out _ _ ?_ (fun hHeld => ?_)
          · (try dsimp only); exact HKZ.out _ _ _ _ _ _ hHeld
          clear hK K
          (try simp only [Act.put, sA, sB, sC])
          refine wpAnyH_done (by kernel_rfl) ?_ _
          go_wp2_with fail
          exact bodyPost_ret (v := agV s1) (by simp [results, Tryz.results257, go_sem, ov0, ov1, ov2, ov3, ov4]) rfl ⟨rfl, TB.done ((HTB.out.below (Below.refl _ _).drew).below hb2) _ _ _ _ _⟩
        · have h1 := fun W hb => (H1.out W hb).mono (fun e w' h => (⟨h.1.trans (if_neg hz1), h.2⟩ : e = .panicked (PV s2) ∧ Below W.heap.size W w'))
          clear H1
          have H1 := Lib.hid h1
          have HZ1 := Lib.hid hz1
          clear h1 hz1
          have HT := Lib.hid (fun W (hb : TC w FA fn FC VA vn VC 13 (some ad) n c nm v W) => (show THeldK w FA fn FC VA vn VC 13 ad n c ⟨ad.block, ad.off + 8, none⟩ p1 A1 n1 c1 m1 y1 W from let q := HQ1.out W hb.1; ⟨hb.2.2.1, hb.2.2.2.1, hb.2.2.2.2.1, hb.2.2.2.2.2.1, q.1, q.2.1, q.2.2.1, q.2.2.2.1, q.2.2.2.2.1, q.2.2.2.2.2.1, q.2.2.2.2.2.2.1, q.2.2.2.2.2.2.2⟩))
          have HK1 := Lib.hid (fun (W W' : World) (h : (TC w FA fn FC VA vn VC 13 (some ad) n c nm v W ∧ THeldK w FA fn FC VA vn VC 13 ad n c ⟨ad.block, ad.off + 8, none⟩ p1 A1 n1 c1 m1 y1 W)) (hb : Below W.heap.size W W') => (show (TC w FA fn FC VA vn VC 13 (some ad) n c nm v W' ∧ THeldK w FA fn FC VA vn VC 13 ad n c ⟨ad.block, ad.off + 8, none⟩ p1 A1 n1 c1 m1 y1 W') from ⟨h.1.below2 (hb.mono h.1.2.1), HT.out _ (h.1.below2 (hb.mono h.1.2.1))⟩))
          have HKZ := Lib.hid (fun (W : World) (u0 u1 u2 u3 u4 : Value) (h : (TC w FA fn FC VA vn VC 13 (some ad) n c nm v W ∧ THeldK w FA fn FC VA vn VC 13 ad n c ⟨ad.block, ad.off + 8, none⟩ p1 A1 n1 c1 m1 y1 W)) => let hb := below_set5 (Below.refl (w.heap.size + 2) W) (show w.heap.size + 2 ≤ w.heap.size + 1 + 1 by omega) u0 u1 u2 u3 u4; (show (TC w FA fn FC VA vn VC 13 (some ad) n c nm v (((((W.setCell ⟨w.heap.size + 1 + 1, 0, none⟩ u0).setCell ⟨w.heap.size + 1 + 1, 1, none⟩ u1).setCell ⟨w.heap.size + 1 + 1, 2, none⟩ u2).setCell ⟨w.heap.size + 1 + 1, 3, none⟩ u3).setCell ⟨w.heap.size + 1 + 1, 4, none⟩ u4) ∧ THeldK w FA fn FC VA vn VC 13 ad n c ⟨ad.block, ad.off + 8, none⟩ p1 A1 n1 c1 m1 y1 (((((W.setCell ⟨w.heap.size + 1 + 1, 0, none⟩ u0).setCell ⟨w.heap.size + 1 + 1, 1, none⟩ u1).setCell ⟨w.heap.size + 1 + 1, 2, none⟩ u2).setCell ⟨w.heap.size + 1 + 1, 3, none⟩ u3).setCell ⟨w.heap.size + 1 + 1, 4, none⟩ u4)) from ⟨h.1.below2 hb, HT.out _ (h.1.below2 hb)⟩))
          have hS1 : (fun W => (TC w FA fn FC VA vn VC 13 (some ad) n c nm v W ∧ THeldK w FA fn FC VA vn VC 13 ad n c ⟨ad.block, ad.off + 8, none⟩ p1 A1 n1 c1 m1 y1 W)) wc.drew := ⟨hTB.tc.below2 (Below.refl _ _).drew, HT.out _ (hTB.tc.below2 (Below.refl _ _).drew)⟩
          have HTB := Lib.hid hTB
          go_wp2_with fail
          refine wp_region_held_drew (S := (fun W => (TC w FA fn FC VA vn VC 13 (some ad) n c nm v W ∧ THeldK w FA fn FC VA vn VC 13 ad n c ⟨ad.block, ad.off + 8, none⟩ p1 A1 n1 c1 m1 y1 W))) (by kernel_rfl) (hS1) (fun hHeld => ?_)
          refine wpAnyH_take (i := 0) (oi := ?oi164) (v := ?v164) ?hi164 (by kernel_rfl) (by kernel_rfl) (by kernel_rfl) ?hQ164 (Or.inl ⟨?hw164, ?hy164⟩) (by assumption) ?rest164
          case hi164 => (simp only [gA, gB, gC]; rfl)
          case hQ164 => exact fun _ _ _ h => h
          case hw164 => rfl
          case hy164 => (intro w hSw; (try dsimp only at hSw); go_simp; try with_reducible rfl)
          (try simp only [Act.put, sA, sB, sC])
          refine wpAnyH_take (i := 1) (oi := ?oi165) (v := ?v165) ?hi165 (by kernel_rfl) (by kernel_rfl) (by kernel_rfl) ?hQ165 (Or.inl ⟨?hw165, ?hy165⟩) (by assumption) ?rest165
          case hi165 => (simp only [gA, gB, gC]; rfl)
          case hQ165 => exact fun _ _ _ h => h
          case hw165 => rfl
          case hy165 => (intro w hSw; (try dsimp only at hSw); go_simp; try with_reducible rfl)
          (try simp only [Act.put, sA, sB, sC])
          refine wpAnyH_take (i := 2) (oi := ?oi166) (v := ?v166) ?hi166 (by kernel_rfl) (by kernel_rfl) (by kernel_rfl) ?hQ166 (Or.inl ⟨?hw166, ?hy166⟩) (by assumption) ?rest166
          case hi166 => (simp only [gA, gB, gC]; rfl)
          case hQ166 => exact fun _ _ _ h => h
          case hw166 => rfl
          case hy166 => (intro w hSw; (try dsimp only at hSw); go_simp; try with_reducible rfl)
          (try simp only [Act.put, sA, sB, sC])
          refine wpAnyH_take (i := 3) (oi := ?oi167) (v := ?v167) ?hi167 (by kernel_rfl) (by kernel_rfl) (by kernel_rfl) ?hQ167 (Or.inl ⟨?hw167, ?hy167⟩) (by assumption) ?rest167
          case hi167 => (simp only [gA, gB, gC]; rfl)
          case hQ167 => exact fun _ _ _ h => h
          case hw167 => rfl
          case hy167 => (intro w hSw; (try dsimp only at hSw); go_simp; try with_reducible rfl)
          (try simp only [Act.put, sA, sB, sC])
          refine wpAnyH_take (i := 4) (oi := ?oi168) (v := ?v168) ?hi168 (by kernel_rfl) (by kernel_rfl) (by kernel_rfl) ?hQ168 (Or.inl ⟨?hw168, ?hy168⟩) (by assumption) ?rest168
          case hi168 => (simp only [gA, gB, gC]; rfl)
          case hQ168 => exact fun _ _ _ h => h
          case hw168 => rfl
          case hy168 => (intro w hSw; (try dsimp only at hSw); go_simp; try with_reducible rfl)
          (try simp only [Act.put, sA, sB, sC])
          refine wpAnyH_ready (rs := [5]) (by kernel_rfl) (by simp) ?_
          refine AllReadyH.cons (o := ?o169) ?ho169 (fun K hK => ?st169) AllReadyH.nil
          case ho169 => (simp only [gA, gB, gC]; rfl)
          go_simp
          refine (H1.out _ hHeld.1.1).mono ?_; rintro e w2 ⟨rfl, hb2⟩
          exact ⟨rfl, (if_neg HZ1.out).symm, ((HTB.out.below (Below.refl _ _).drew).below hb2).1⟩
  · have h0 := fun W hb => (H0.out W hb).mono (fun e w' h => (⟨h.1.trans (if_neg hz), h.2⟩ : e = .panicked (PV r2) ∧ Below W.heap.size W w'))
    clear H0
    have H0 := Lib.hid h0
    have HZ := Lib.hid hz
    rw [if_pos hz]
    clear h0 hv0 hz
    have htb : TB w FA fn FC VA vn VC 13 (some ad) n c nm v (((w.alloc (.cells #[.slice FA fn FC, .slice VA vn VC] 248)).alloc (.cells #[.int .i64 13, .slice (some ad) n c, .string nm, .int .i64 v.k, .int .i64 v.i, .bool v.b, .string v.s, .float .f64 v.n] 75)).alloc (.cells #[.int .i64 0, .int .i64 0, .bool false, .string { data := #[] }, .float .f64 0] 55)) := TB_new w FA fn FC VA vn VC 13 (some ad) n c nm v
    have HHELD := Lib.hid (fun W (hb : TB w FA fn FC VA vn VC 13 (some ad) n c nm v W) => (show THeld w FA fn FC VA vn VC ad n c p0 A0 n0 c0 m0 y0 W from let q := hq0 W hb.1; ⟨hb.2.2.1, hb.2.2.2.1, hb.2.2.2.2.1.2.1, q.1, q.2.1, q.2.2.1, q.2.2.2.1, q.2.2.2.2.1, q.2.2.2.2.2.1, q.2.2.2.2.2.2.1, q.2.2.2.2.2.2.2⟩))
    clear hq0
    have HKP := Lib.hid (fun (W W' : World) (h : TB w FA fn FC VA vn VC 13 (some ad) n c nm v W ∧ THeld w FA fn FC VA vn VC ad n c p0 A0 n0 c0 m0 y0 W) (hb : Below W.heap.size W W') => And.intro (h.1.below hb) (HHELD.out _ (h.1.below hb)))
    have HKS := Lib.hid (fun (W : World) (b : Nat) (u0 u1 u2 u3 u4 : Value) (hge : w.heap.size + 3 ≤ b) (h : TB w FA fn FC VA vn VC 13 (some ad) n c nm v W ∧ THeld w FA fn FC VA vn VC ad n c p0 A0 n0 c0 m0 y0 W) => let hb := below_set5 (Below.refl (w.heap.size + 3) W) hge u0 u1 u2 u3 u4; And.intro (h.1.below3 hb) (HHELD.out _ (h.1.below3 hb)))
    go_enter Tryz.func257, Tryz.ntmps257
    go_upto_region 6 with fail
    generalize ((w.alloc (.cells #[.slice FA fn FC, .slice VA vn VC] 248)).alloc (.cells #[.int .i64 13, .slice (some ad) n c, .string nm, .int .i64 v.k, .int .i64 v.i, .bool v.b, .string v.s, .float .f64 v.n] 75)).alloc (.cells #[.int .i64 0, .int .i64 0, .bool false, .string { data := #[] }, .float .f64 0] 55) = wb at *
    have hS0 : TB w FA fn FC VA vn VC 13 (some ad) n c nm v wb.drew ∧ THeld w FA fn FC VA vn VC ad n c p0 A0 n0 c0 m0 y0 wb.drew := ⟨htb.below (Below.refl _ _).drew, HHELD.out _ (htb.below (Below.refl _ _).drew)⟩
    refine wp_region_held_drew (S := (fun W => TB w FA fn FC VA vn VC 13 (some ad) n c nm v W ∧ THeld w FA fn FC VA vn VC ad n c p0 A0 n0 c0 m0 y0 W)) (by kernel_rfl) (hS0) (fun hHeld => ?_)
    refine wpAnyH_take (i := 0) (oi := ?oi192) (v := ?v192) ?hi192 (by kernel_rfl) (by kernel_rfl) (by kernel_rfl) ?hQ192 (Or.inl ⟨?hw192, ?hy192⟩) (by assumption) ?rest192
    case hi192 => (simp only [gA, gB, gC]; rfl)
    case hQ192 => exact fun _ _ _ h => h
    case hw192 => rfl
    case hy192 => (intro w hSw; (try dsimp only at hSw); go_simp; try with_reducible rfl)
    (try simp only [Act.put, sA, sB, sC])
    refine wpAnyH_take (i := 1) (oi := ?oi193) (v := ?v193) ?hi193 (by kernel_rfl) (by kernel_rfl) (by kernel_rfl) ?hQ193 (Or.inl ⟨?hw193, ?hy193⟩) (by assumption) ?rest193
    case hi193 => (simp only [gA, gB, gC]; rfl)
    case hQ193 => exact fun _ _ _ h => h
    case hw193 => rfl
    case hy193 => (intro w hSw; (try dsimp only at hSw); go_simp; try with_reducible rfl)
    (try simp only [Act.put, sA, sB, sC])
    refine wpAnyH_take (i := 2) (oi := ?oi194) (v := ?v194) ?hi194 (by kernel_rfl) (by kernel_rfl) (by kernel_rfl) ?hQ194 (Or.inl ⟨?hw194, ?hy194⟩) (by assumption) ?rest194
    case hi194 => (simp only [gA, gB, gC]; rfl)
    case hQ194 => exact fun _ _ _ h => h
    case hw194 => rfl
    case hy194 => (intro w hSw; (try dsimp only at hSw); go_simp; try with_reducible rfl)
    (try simp only [Act.put, sA, sB, sC])
    refine wpAnyH_take (i := 3) (oi := ?oi195) (v := ?v195) ?hi195 (by kernel_rfl) (by kernel_rfl) (by kernel_rfl) ?hQ195 (Or.inl ⟨?hw195, ?hy195⟩) (by assumption) ?rest195
    case hi195 => (simp only [gA, gB, gC]; rfl)
    case hQ195 => exact fun _ _ _ h => h
    case hw195 => rfl
    case hy195 => (intro w hSw; (try dsimp only at hSw); go_simp; try with_reducible rfl)
    (try simp only [Act.put, sA, sB, sC])
    refine wpAnyH_take (i := 4) (oi := ?oi196) (v := ?v196) ?hi196 (by kernel_rfl) (by kernel_rfl) (by kernel_rfl) ?hQ196 (Or.inl ⟨?hw196, ?hy196⟩) (by assumption) ?rest196
    case hi196 => (simp only [gA, gB, gC]; rfl)
    case hQ196 => exact fun _ _ _ h => h
    case hw196 => rfl
    case hy196 => (intro w hSw; (try dsimp only at hSw); go_simp; try with_reducible rfl)
    (try simp only [Act.put, sA, sB, sC])
    refine wpAnyH_ready (rs := [5, 6]) (by kernel_rfl) (by simp) ?_
    refine AllReadyH.cons (o := ?o197) ?ho197 (fun K hK => ?st197) (AllReadyH.cons (o := ?o198) ?ho198 (fun K hK => ?st198) AllReadyH.nil)
    case ho197 => (simp only [gA, gB, gC]; rfl)
    case ho198 => (simp only [gA, gB, gC]; rfl)
    · go_simp
      refine (H0.out _ (And.left (And.left hHeld))).mono ?_; rintro e wA ⟨rfl, hbA⟩
      exact ⟨rfl, (if_neg HZ.out).symm, (And.left (And.left hHeld)).trans (hbA.mono (And.left (And.left hHeld)).size)⟩
    · go_simp
      refine hK.out _ _ ?_ (fun hHeld => ?_)
      · (try dsimp only); exact HKP.out _ _ hS0 (alloc1 _ _)
      clear hK K
      (try simp only [Act.put, sA, sB, sC])
      refine wpAnyH_ready (rs := [5]) (by kernel_rfl) (by simp) ?_
      refine AllReadyH.cons (o := ?o199) ?ho199 (fun K hK => ?st199) AllReadyH.nil
      case ho199 => (simp only [gA, gB, gC]; rfl)
      go_simp
      refine (H0.out _ (And.left (And.left hHeld))).mono ?_; rintro e wA ⟨rfl, hbA⟩
      exact ⟨rfl, (if_neg HZ.out).symm, (And.left (And.left hHeld)).trans (hbA.mono (And.left (And.left hHeld)).size)⟩
set_option maxHeartbeats 600000 in
theorem tell_two (FA : Option Addr) (fn FC : Nat) (VA : Option Addr) (vn VC : Nat) (ad : Addr) (n c : Nat) (nm : ByteArray) (v : Vl) (w : World) (op : Int) (A0 : Option Addr) (n0 c0 : Nat) (m0 : ByteArray) (y0 : Vl) (p0 : Int) (R0 : Vl × Int) (hq0 : ∀ W, Below w.heap.size w W → Kid W ad p0 A0 n0 c0 m0 y0) (h0 : ∀ W, Below w.heap.size w W → Calls Tryz.prog 257 #[agR FA fn FC VA vn VC, agX p0 A0 n0 c0 m0 y0] W (TellP R0 W)) (hv0 : R0.2 = 0 → okV R0.1) (A1 : Option Addr) (n1 c1 : Nat) (m1 : ByteArray) (y1 : Vl) (p1 : Int) (R1 : Vl × Int) (hq1 : ∀ W, Below w.heap.size w W → Kid W ⟨ad.block, ad.off + 8, none⟩ p1 A1 n1 c1 m1 y1) (h1 : ∀ W, Below w.heap.size w W → Calls Tryz.prog 257 #[agR FA fn FC VA vn VC, agX p1 A1 n1 c1 m1 y1] W (TellP R1 W)) (hv1 : R1.2 = 0 → okV R1.1) (hn : 1 < n) (hop1 : op ≠ 1) (hop2 : op ≠ 2) (hop3 : op ≠ 3) (hop16 : op ≠ 16) (hop12 : op ≠ 12) (hop10 : op ≠ 10) (hop11 : op ≠ 11) (hop13 : op ≠ 13) (hp : R0.2 = 0 → R1.2 = 0 → ∀ W, Calls Tryz.prog 272 #[.int .i64 op, agV R0.1, agV R1.1] W (TellP (pairX op R0.1 R1.1) W)) :
    Calls Tryz.prog 257 #[agR FA fn FC VA vn VC, agX op (some ad) n c nm v] w (TellP (if R0.2 ≠ 0 then (vZero, R0.2) else (if R1.2 ≠ 0 then (vZero, R1.2) else pairX op R0.1 R1.1)) w) := by
  have hi1 : (1 : Int) < (n : Int) := by omega
  have hsf := fun (w : World) (a : Addr) (m : Mode) (b : Nat) => run_store Tryz.prog w a (.float .f64 b) m rfl
  have hi : (0 : Int) < (n : Int) := by omega
  have hn0 : 0 < n := by omega
  have q1 : (op == 1) = false := by simpa using hop1
  have q2 : (op == 2) = false := by simpa using hop2
  have q3 : (op == 3) = false := by simpa using hop3
  have q16 : (op == 16) = false := by simpa using hop16
  have q12 : (op == 12) = false := by simpa using hop12
  have q10 : (op == 10) = false := by simpa using hop10
  have q11 : (op == 11) = false := by simpa using hop11
  have q13 : (op == 13) = false := by simpa using hop13
  clear hop1
  clear hop2
  clear hop3
  clear hop16
  clear hop12
  clear hop10
  clear hop11
  clear hop13
  have HQ1 := Lib.hid hq1
  have H1 := Lib.hid h1
  clear hq1 h1 hv1
  obtain ⟨r1, r2⟩ := R0
  have H0 := Lib.hid h0
  clear h0
  by_cases hz : r2 = 0
  · subst hz
    rw [if_neg (fun h => h rfl)]
    have h0 := fun W hb => (H0.out W hb).mono (fun e w' h => (⟨h.1.trans (if_pos rfl), h.2⟩ : e = .returned (agV r1) ∧ Below W.heap.size W w'))
    clear H0
    have H0 := Lib.hid h0
    clear h0 hv0
    obtain ⟨s1, s2⟩ := R1
    by_cases hz1 : s2 = 0
    · subst hz1
      rw [if_neg (fun h => h rfl)]
      have h1 := fun W hb => (H1.out W hb).mono (fun e w' h => (⟨h.1.trans (if_pos rfl), h.2⟩ : e = .returned (agV s1) ∧ Below W.heap.size W w'))
      clear H1
      have H1 := Lib.hid h1
      have hp := hp rfl rfl
      clear h1
      have hpe : pairX op (r1, (0 : Int)).1 (s1, (0 : Int)).1 = pairX op r1 s1 := rfl
      rw [hpe] at hp ⊢
      clear hpe
      generalize pairX op r1 s1 = pr at hp ⊢
      obtain ⟨t1, t2⟩ := pr
      have HP0 := Lib.hid hp
      clear hp
      by_cases hz2 : t2 = 0
      · subst hz2
        have hp := fun W => (HP0.out W).mono (fun e w' h => (⟨h.1.trans (if_pos rfl), h.2⟩ : e = .returned (agV t1) ∧ Below W.heap.size W w'))
        have HPP := Lib.hid hp
        clear hp HP0
        have htb : TB w FA fn FC VA vn VC op (some ad) n c nm v (((w.alloc (.cells #[.slice FA fn FC, .slice VA vn VC] 248)).alloc (.cells #[.int .i64 op, .slice (some ad) n c, .string nm, .int .i64 v.k, .int .i64 v.i, .bool v.b, .string v.s, .float .f64 v.n] 75)).alloc (.cells #[.int .i64 0, .int .i64 0, .bool false, .string { data := #[] }, .float .f64 0] 55)) := TB_new w FA fn FC VA vn VC op (some ad) n c nm v
        have HHELD := Lib.hid (fun W (hb : TB w FA fn FC VA vn VC op (some ad) n c nm v W) => (show THeld w FA fn FC VA vn VC ad n c p0 A0 n0 c0 m0 y0 W from let q := hq0 W hb.1; ⟨hb.2.2.1, hb.2.2.2.1, hb.2.2.2.2.1.2.1, q.1, q.2.1, q.2.2.1, q.2.2.2.1, q.2.2.2.2.1, q.2.2.2.2.2.1, q.2.2.2.2.2.2.1, q.2.2.2.2.2.2.2⟩))
        clear hq0
        have HKP := Lib.hid (fun (W W' : World) (h : TB w FA fn FC VA vn VC op (some ad) n c nm v W ∧ THeld w FA fn FC VA vn VC ad n c p0 A0 n0 c0 m0 y0 W) (hb : Below W.heap.size W W') => And.intro (h.1.below hb) (HHELD.out _ (h.1.below hb)))
        have HKS := Lib.hid (fun (W : World) (b : Nat) (u0 u1 u2 u3 u4 : Value) (hge : w.heap.size + 3 ≤ b) (h : TB w FA fn FC VA vn VC op (some ad) n c nm v W ∧ THeld w FA fn FC VA vn VC ad n c p0 A0 n0 c0 m0 y0 W) => let hb := below_set5 (Below.refl (w.heap.size + 3) W) hge u0 u1 u2 u3 u4; And.intro (h.1.below3 hb) (HHELD.out _ (h.1.below3 hb)))
        go_enter Tryz.func257, Tryz.ntmps257
        go_upto_region 6 with fail
        generalize ((w.alloc (.cells #[.slice FA fn FC, .slice VA vn VC] 248)).alloc (.cells #[.int .i64 op, .slice (some ad) n c, .string nm, .int .i64 v.k, .int .i64 v.i, .bool v.b, .string v.s, .float .f64 v.n] 75)).alloc (.cells #[.int .i64 0, .int .i64 0, .bool false, .string { data := #[] }, .float .f64 0] 55) = wb at *
        go_cut [5] from 23 to 28 (fun s5 wx => ∃ b, s5 = .pointer (some ⟨b, 0, none⟩) ∧ w.heap.size + 3 ≤ b ∧ TB w FA fn FC VA vn VC op (some ad) n c nm v wx ∧ Bx wx b r1)
        case first =>
          have hS0 : TB w FA fn FC VA vn VC op (some ad) n c nm v wb.drew ∧ THeld w FA fn FC VA vn VC ad n c p0 A0 n0 c0 m0 y0 wb.drew := ⟨htb.below (Below.refl _ _).drew, HHELD.out _ (htb.below (Below.refl _ _).drew)⟩
          refine wp_region_held_drew (S := (fun W => TB w FA fn FC VA vn VC op (some ad) n c nm v W ∧ THeld w FA fn FC VA vn VC ad n c p0 A0 n0 c0 m0 y0 W)) (by kernel_rfl) (hS0) (fun hHeld => ?_)
          refine wpAnyH_take (i := 0) (oi := ?oi241) (v := ?v241) ?hi241 (by kernel_rfl) (by kernel_rfl) (by kernel_rfl) ?hQ241 (Or.inl ⟨?hw241, ?hy241⟩) (by assumption) ?rest241
          case hi241 => (simp only [gA, gB, gC]; rfl)
          case hQ241 => exact fun _ _ _ h => h
          case hw241 => rfl
          case hy241 => (intro w hSw; (try dsimp only at hSw); go_simp; try with_reducible rfl)
          (try simp only [Act.put, sA, sB, sC])
          refine wpAnyH_take (i := 1) (oi := ?oi242) (v := ?v242) ?hi242 (by kernel_rfl) (by kernel_rfl) (by kernel_rfl) ?hQ242 (Or.inl ⟨?hw242, ?hy242⟩) (by assumption) ?rest242
          case hi242 => (simp only [gA, gB, gC]; rfl)
          case hQ242 => exact fun _ _ _ h => h
          case hw242 => rfl
          case hy242 => (intro w hSw; (try dsimp only at hSw); go_simp; try with_reducible rfl)
          (try simp only [Act.put, sA, sB, sC])
          refine wpAnyH_take (i := 2) (oi := ?oi243) (v := ?v243) ?hi243 (by kernel_rfl) (by kernel_rfl) (by kernel_rfl) ?hQ243 (Or.inl ⟨?hw243, ?hy243⟩) (by assumption) ?rest243
          case hi243 => (simp only [gA, gB, gC]; rfl)
          case hQ243 => exact fun _ _ _ h => h
          case hw243 => rfl
          case hy243 => (intro w hSw; (try dsimp only at hSw); go_simp; try with_reducible rfl)
          (try simp only [Act.put, sA, sB, sC])
          refine wpAnyH_take (i := 3) (oi := ?oi244) (v := ?v244) ?hi244 (by kernel_rfl) (by kernel_rfl) (by kernel_rfl) ?hQ244 (Or.inl ⟨?hw244, ?hy244⟩) (by assumption) ?rest244
          case hi244 => (simp only [gA, gB, gC]; rfl)
          case hQ244 => exact fun _ _ _ h => h
          case hw244 => rfl
          case hy244 => (intro w hSw; (try dsimp only at hSw); go_simp; try with_reducible rfl)
          (try simp only [Act.put, sA, sB, sC])
          refine wpAnyH_take (i := 4) (oi := ?oi245) (v := ?v245) ?hi245 (by kernel_rfl) (by kernel_rfl) (by kernel_rfl) ?hQ245 (Or.inl ⟨?hw245, ?hy245⟩) (by assumption) ?rest245
          case hi245 => (simp only [gA, gB, gC]; rfl)
          case hQ245 => exact fun _ _ _ h => h
          case hw245 => rfl
          case hy245 => (intro w hSw; (try dsimp only at hSw); go_simp; try with_reducible rfl)
          (try simp only [Act.put, sA, sB, sC])
          refine wpAnyH_ready (rs := [5, 6]) (by kernel_rfl) (by simp) ?_
          refine AllReadyH.cons (o := ?o246) ?ho246 (fun K hK => ?st246) (AllReadyH.cons (o := ?o247) ?ho247 (fun K hK => ?st247) AllReadyH.nil)
          case ho246 => (simp only [gA, gB, gC]; rfl)
          case ho247 => (simp only [gA, gB, gC]; rfl)
          · go_simp
            refine (H0.out _ (And.left (And.left hHeld))).mono ?_; rintro e wA ⟨rfl, hbA⟩; have hSA := HKP.out _ _ hHeld hbA
            refine hK.out _ _ ?_ (fun hHeld => ?_)
            · (try dsimp only); exact hSA
            clear hK K
            (try simp only [Act.put, sA, sB, sC])
            refine wpAnyH_ready (rs := [6]) (by kernel_rfl) (by simp) ?_
            refine AllReadyH.cons (o := ?o248) ?ho248 (fun K hK => ?st248) AllReadyH.nil
            case ho248 => (simp only [gA, gB, gC]; rfl)
            go_simp
            refine hK.out _ _ ?_ (fun hHeld => ?_)
            · (try dsimp only); exact HKP.out _ _ hSA (alloc1 _ _)
            clear hK K
            (try simp only [Act.put, sA, sB, sC])
            refine wpAnyH_ready (rs := [7]) (by kernel_rfl) (by simp) ?_
            refine AllReadyH.cons (o := ?o249) ?ho249 (fun K hK => ?st249) AllReadyH.nil
            case ho249 => (simp only [gA, gB, gC]; rfl)
            go_simp
            refine hK.out _ _ ?_ (fun hHeld => ?_)
            · (try dsimp only); exact HKP.out _ _ hSA (alloc1 _ _)
            clear hK K
            (try simp only [Act.put, sA, sB, sC])
            refine wpAnyH_done (by kernel_rfl) ?_ _
            go_wp2_with fail
            go_meet
            exact ⟨_, rfl, hSA.1.2.1, hHeld.1, Bx.new _ r1⟩
          · go_simp
            refine hK.out _ _ ?_ (fun hHeld => ?_)
            · (try dsimp only); exact HKP.out _ _ hS0 (alloc1 _ _)
            clear hK K
            (try simp only [Act.put, sA, sB, sC])
            refine wpAnyH_ready (rs := [5]) (by kernel_rfl) (by simp) ?_
            refine AllReadyH.cons (o := ?o250) ?ho250 (fun K hK => ?st250) AllReadyH.nil
            case ho250 => (simp only [gA, gB, gC]; rfl)
            go_simp
            refine (H0.out _ (And.left (And.left hHeld))).mono ?_; rintro e wA ⟨rfl, hbA⟩; have hSA := HKP.out _ _ hHeld hbA; obtain ⟨e0, e1, e2, e3, e4, ef⟩ := newcells hbA
            refine hK.out _ _ ?_ (fun hHeld => ?_)
            · (try dsimp only); exact hSA
            clear hK K
            (try simp only [Act.put, sA, sB, sC])
            refine wpAnyH_ready (rs := [7]) (by kernel_rfl) (by simp) ?_
            refine AllReadyH.cons (o := ?o251) ?ho251 (fun K hK => ?st251) AllReadyH.nil
            case ho251 => (simp only [gA, gB, gC]; rfl)
            go_simp
            refine hK.out _ _ ?_ (fun hHeld => ?_)
            · (try dsimp only); exact HKS.out _ _ _ _ _ _ _ htb.2.1 hSA
            clear hK K
            (try simp only [Act.put, sA, sB, sC])
            refine wpAnyH_done (by kernel_rfl) ?_ _
            go_wp2_with fail
            go_meet
            exact ⟨_, rfl, htb.2.1, hHeld.1, bx_set e0 e1 e2 e3 e4⟩
        case rest =>
          clear htb HHELD HKP HKS
          obtain ⟨b, rfl, hbge, hTB, hx0, hx1, hx2, hx3, hx4⟩ := hcut
          obtain ⟨d0, d1, d2, d3, d4, d5, d6, d7⟩ := hTB.2.2.2.2.1
          have g0 := hTB.2.2.1
          have g1 := hTB.2.2.2.1
          have HT := Lib.hid (fun W (hb : TC w FA fn FC VA vn VC op (some ad) n c nm v W) => (show THeldK w FA fn FC VA vn VC op ad n c ⟨ad.block, ad.off + 8, none⟩ p1 A1 n1 c1 m1 y1 W from let q := HQ1.out W hb.1; ⟨hb.2.2.1, hb.2.2.2.1, hb.2.2.2.2.1, hb.2.2.2.2.2.1, q.1, q.2.1, q.2.2.1, q.2.2.2.1, q.2.2.2.2.1, q.2.2.2.2.2.1, q.2.2.2.2.2.2.1, q.2.2.2.2.2.2.2⟩))
          have HK1 := Lib.hid (fun (W W' : World) (h : (TC w FA fn FC VA vn VC op (some ad) n c nm v W ∧ THeldK w FA fn FC VA vn VC op ad n c ⟨ad.block, ad.off + 8, none⟩ p1 A1 n1 c1 m1 y1 W ∧ W.cell? ⟨b, 0, none⟩ = some (.int .i64 r1.k) ∧ W.cell? ⟨b, 1, none⟩ = some (.int .i64 r1.i) ∧ W.cell? ⟨b, 2, none⟩ = some (.bool r1.b) ∧ W.cell? ⟨b, 3, none⟩ = some (.string r1.s) ∧ W.cell? ⟨b, 4, none⟩ = some (.float .f64 r1.n))) (hb : Below W.heap.size W W') => (show (TC w FA fn FC VA vn VC op (some ad) n c nm v W' ∧ THeldK w FA fn FC VA vn VC op ad n c ⟨ad.block, ad.off + 8, none⟩ p1 A1 n1 c1 m1 y1 W' ∧ W'.cell? ⟨b, 0, none⟩ = some (.int .i64 r1.k) ∧ W'.cell? ⟨b, 1, none⟩ = some (.int .i64 r1.i) ∧ W'.cell? ⟨b, 2, none⟩ = some (.bool r1.b) ∧ W'.cell? ⟨b, 3, none⟩ = some (.string r1.s) ∧ W'.cell? ⟨b, 4, none⟩ = some (.float .f64 r1.n)) from ⟨h.1.below2 (hb.mono h.1.2.1), HT.out _ (h.1.below2 (hb.mono h.1.2.1)), ((show Bx W b r1 from h.2.2).below hb)⟩))
          have HKZ := Lib.hid (fun (W : World) (u0 u1 u2 u3 u4 : Value) (h : (TC w FA fn FC VA vn VC op (some ad) n c nm v W ∧ THeldK w FA fn FC VA vn VC op ad n c ⟨ad.block, ad.off + 8, none⟩ p1 A1 n1 c1 m1 y1 W ∧ W.cell? ⟨b, 0, none⟩ = some (.int .i64 r1.k) ∧ W.cell? ⟨b, 1, none⟩ = some (.int .i64 r1.i) ∧ W.cell? ⟨b, 2, none⟩ = some (.bool r1.b) ∧ W.cell? ⟨b, 3, none⟩ = some (.string r1.s) ∧ W.cell? ⟨b, 4, none⟩ = some (.float .f64 r1.n))) => let hb := below_set5 (Below.refl (w.heap.size + 2) W) (show w.heap.size + 2 ≤ w.heap.size + 1 + 1 by omega) u0 u1 u2 u3 u4; (show (TC w FA fn FC VA vn VC op (some ad) n c nm v (((((W.setCell ⟨w.heap.size + 1 + 1, 0, none⟩ u0).setCell ⟨w.heap.size + 1 + 1, 1, none⟩ u1).setCell ⟨w.heap.size + 1 + 1, 2, none⟩ u2).setCell ⟨w.heap.size + 1 + 1, 3, none⟩ u3).setCell ⟨w.heap.size + 1 + 1, 4, none⟩ u4) ∧ THeldK w FA fn FC VA vn VC op ad n c ⟨ad.block, ad.off + 8, none⟩ p1 A1 n1 c1 m1 y1 (((((W.setCell ⟨w.heap.size + 1 + 1, 0, none⟩ u0).setCell ⟨w.heap.size + 1 + 1, 1, none⟩ u1).setCell ⟨w.heap.size + 1 + 1, 2, none⟩ u2).setCell ⟨w.heap.size + 1 + 1, 3, none⟩ u3).setCell ⟨w.heap.size + 1 + 1, 4, none⟩ u4) ∧ (((((W.setCell ⟨w.heap.size + 1 + 1, 0, none⟩ u0).setCell ⟨w.heap.size + 1 + 1, 1, none⟩ u1).setCell ⟨w.heap.size + 1 + 1, 2, none⟩ u2).setCell ⟨w.heap.size + 1 + 1, 3, none⟩ u3).setCell ⟨w.heap.size + 1 + 1, 4, none⟩ u4).cell? ⟨b, 0, none⟩ = some (.int .i64 r1.k) ∧ (((((W.setCell ⟨w.heap.size + 1 + 1, 0, none⟩ u0).setCell ⟨w.heap.size + 1 + 1, 1, none⟩ u1).setCell ⟨w.heap.size + 1 + 1, 2, none⟩ u2).setCell ⟨w.heap.size + 1 + 1, 3, none⟩ u3).setCell ⟨w.heap.size + 1 + 1, 4, none⟩ u4).cell? ⟨b, 1, none⟩ = some (.int .i64 r1.i) ∧ (((((W.setCell ⟨w.heap.size + 1 + 1, 0, none⟩ u0).setCell ⟨w.heap.size + 1 + 1, 1, none⟩ u1).setCell ⟨w.heap.size + 1 + 1, 2, none⟩ u2).setCell ⟨w.heap.size + 1 + 1, 3, none⟩ u3).setCell ⟨w.heap.size + 1 + 1, 4, none⟩ u4).cell? ⟨b, 2, none⟩ = some (.bool r1.b) ∧ (((((W.setCell ⟨w.heap.size + 1 + 1, 0, none⟩ u0).setCell ⟨w.heap.size + 1 + 1, 1, none⟩ u1).setCell ⟨w.heap.size + 1 + 1, 2, none⟩ u2).setCell ⟨w.heap.size + 1 + 1, 3, none⟩ u3).setCell ⟨w.heap.size + 1 + 1, 4, none⟩ u4).cell? ⟨b, 3, none⟩ = some (.string r1.s) ∧ (((((W.setCell ⟨w.heap.size + 1 + 1, 0, none⟩ u0).setCell ⟨w.heap.size + 1 + 1, 1, none⟩ u1).setCell ⟨w.heap.size + 1 + 1, 2, none⟩ u2).setCell ⟨w.heap.size + 1 + 1, 3, none⟩ u3).setCell ⟨w.heap.size + 1 + 1, 4, none⟩ u4).cell? ⟨b, 4, none⟩ = some (.float .f64 r1.n)) from ⟨h.1.below2 hb, HT.out _ (h.1.below2 hb), bx_off (show Bx W b r1 from h.2.2) (by omega) u0 u1 u2 u3 u4⟩))
          have hS1 : (fun W => (TC w FA fn FC VA vn VC op (some ad) n c nm v W ∧ THeldK w FA fn FC VA vn VC op ad n c ⟨ad.block, ad.off + 8, none⟩ p1 A1 n1 c1 m1 y1 W ∧ W.cell? ⟨b, 0, none⟩ = some (.int .i64 r1.k) ∧ W.cell? ⟨b, 1, none⟩ = some (.int .i64 r1.i) ∧ W.cell? ⟨b, 2, none⟩ = some (.bool r1.b) ∧ W.cell? ⟨b, 3, none⟩ = some (.string r1.s) ∧ W.cell? ⟨b, 4, none⟩ = some (.float .f64 r1.n))) wc.drew := ⟨hTB.tc.below2 (Below.refl _ _).drew, HT.out _ (hTB.tc.below2 (Below.refl _ _).drew), hx0, hx1, hx2, hx3, hx4⟩
          have HTB := Lib.hid hTB
          go_wp2_with fail
          refine wp_region_held_drew (S := (fun W => (TC w FA fn FC VA vn VC op (some ad) n c nm v W ∧ THeldK w FA fn FC VA vn VC op ad n c ⟨ad.block, ad.off + 8, none⟩ p1 A1 n1 c1 m1 y1 W ∧ W.cell? ⟨b, 0, none⟩ = some (.int .i64 r1.k) ∧ W.cell? ⟨b, 1, none⟩ = some (.int .i64 r1.i) ∧ W.cell? ⟨b, 2, none⟩ = some (.bool r1.b) ∧ W.cell? ⟨b, 3, none⟩ = some (.string r1.s) ∧ W.cell? ⟨b, 4, none⟩ = some (.float .f64 r1.n)))) (by kernel_rfl) (hS1) (fun hHeld => ?_)
          refine wpAnyH_take (i := 0) (oi := ?oi209) (v := ?v209) ?hi209 (by kernel_rfl) (by kernel_rfl) (by kernel_rfl) ?hQ209 (Or.inl ⟨?hw209, ?hy209⟩) (by assumption) ?rest209
          case hi209 => (simp only [gA, gB, gC]; rfl)
          case hQ209 => exact fun _ _ _ h => h
          case hw209 => rfl
          case hy209 => (intro w hSw; (try dsimp only at hSw); go_simp; try with_reducible rfl)
          (try simp only [Act.put, sA, sB, sC])
          refine wpAnyH_take (i := 1) (oi := ?oi210) (v := ?v210) ?hi210 (by kernel_rfl) (by kernel_rfl) (by kernel_rfl) ?hQ210 (Or.inl ⟨?hw210, ?hy210⟩) (by assumption) ?rest210
          case hi210 => (simp only [gA, gB, gC]; rfl)
          case hQ210 => exact fun _ _ _ h => h
          case hw210 => rfl
          case hy210 => (intro w hSw; (try dsimp only at hSw); go_simp; try with_reducible rfl)
          (try simp only [Act.put, sA, sB, sC])
          refine wpAnyH_take (i := 2) (oi := ?oi211) (v := ?v211) ?hi211 (by kernel_rfl) (by kernel_rfl) (by kernel_rfl) ?hQ211 (Or.inl ⟨?hw211, ?hy211⟩) (by assumption) ?rest211
          case hi211 => (simp only [gA, gB, gC]; rfl)
          case hQ211 => exact fun _ _ _ h => h
          case hw211 => rfl
          case hy211 => (intro w hSw; (try dsimp only at hSw); go_simp; try with_reducible rfl)
          (try simp only [Act.put, sA, sB, sC])
          refine wpAnyH_take (i := 3) (oi := ?oi212) (v := ?v212) ?hi212 (by kernel_rfl) (by kernel_rfl) (by kernel_rfl) ?hQ212 (Or.inl ⟨?hw212, ?hy212⟩) (by assumption) ?rest212
          case hi212 => (simp only [gA, gB, gC]; rfl)
          case hQ212 => exact fun _ _ _ h => h
          case hw212 => rfl
          case hy212 => (intro w hSw; (try dsimp only at hSw); go_simp; try with_reducible rfl)
          (try simp only [Act.put, sA, sB, sC])
          refine wpAnyH_take (i := 4) (oi := ?oi213) (v := ?v213) ?hi213 (by kernel_rfl) (by kernel_rfl) (by kernel_rfl) ?hQ213 (Or.inl ⟨?hw213, ?hy213⟩) (by assumption) ?rest213
          case hi213 => (simp only [gA, gB, gC]; rfl)
          case hQ213 => exact fun _ _ _ h => h
          case hw213 => rfl
          case hy213 => (intro w hSw; (try dsimp only at hSw); go_simp; try with_reducible rfl)
          (try simp only [Act.put, sA, sB, sC])
          refine wpAnyH_take (i := 5) (oi := ?oi214) (v := ?v214) ?hi214 (by kernel_rfl) (by kernel_rfl) (by kernel_rfl) ?hQ214 (Or.inl ⟨?hw214, ?hy214⟩) (by assumption) ?rest214
          case hi214 => (simp only [gA, gB, gC]; rfl)
          case hQ214 => exact fun _ _ _ h => h
          case hw214 => rfl
          case hy214 => (intro w hSw; (try dsimp only at hSw); go_simp; try with_reducible rfl)
          (try simp only [Act.put, sA, sB, sC])
          refine wpAnyH_take (i := 6) (oi := ?oi215) (v := ?v215) ?hi215 (by kernel_rfl) (by kernel_rfl) (by kernel_rfl) ?hQ215 (Or.inl ⟨?hw215, ?hy215⟩) (by assumption) ?rest215
          case hi215 => (simp only [gA, gB, gC]; rfl)
          case hQ215 => exact fun _ _ _ h => h
          case hw215 => rfl
          case hy215 => (intro w hSw; (try dsimp only at hSw); go_simp; try with_reducible rfl)
          (try simp only [Act.put, sA, sB, sC])
          refine wpAnyH_take (i := 7) (oi := ?oi216) (v := ?v216) ?hi216 (by kernel_rfl) (by kernel_rfl) (by kernel_rfl) ?hQ216 (Or.inl ⟨?hw216, ?hy216⟩) (by assumption) ?rest216
          case hi216 => (simp only [gA, gB, gC]; rfl)
          case hQ216 => exact fun _ _ _ h => h
          case hw216 => rfl
          case hy216 => (intro w hSw; (try dsimp only at hSw); go_simp; try with_reducible rfl)
          (try simp only [Act.put, sA, sB, sC])
          refine wpAnyH_ready (rs := [8]) (by kernel_rfl) (by simp) ?_
          refine AllReadyH.cons (o := ?o217) ?ho217 (fun K hK => ?st217) AllReadyH.nil
          case ho217 => (simp only [gA, gB, gC]; rfl)
          go_simp
          refine (H1.out _ hHeld.1.1).mono ?_; rintro e w2 ⟨rfl, hb2⟩
          refine hK.out _ _ ?_ (fun hHeld => ?_)
          · (try dsimp only); exact HK1.out _ _ hHeld hb2
          clear hK K
          (try simp only [Act.put, sA, sB, sC])
          refine wpAnyH_ready (rs := [9]) (by kernel_rfl) (by simp) ?_
          refine AllReadyH.cons (o := ?o218) ?ho218 (fun K hK => ?st218) AllReadyH.nil
          case ho218 => (simp only [gA, gB, gC]; rfl)
          go_simp
          refine (HPP.out _).mono ?_; rintro e w3 ⟨rfl, hb3⟩; obtain ⟨ou0, ou1, ou2, ou3, ou4, ov0, ov1, ov2, ov3, ov4, ovf⟩ := TB.out (((HTB.out.below (Below.refl _ _).drew).below hb2).below hb3)
          refine hK.out _ _ ?_ (fun hHeld => ?_)
          · (try dsimp only); exact HK1.out _ _ hHeld hb3
          clear hK K
          (try simp only [Act.put, sA, sB, sC])
          refine wpAnyH_ready (rs := [10]) (by kernel_rfl) (by simp) ?_
          refine AllReadyH.cons (o := ?o219) ?ho219 (fun K hK => ?st219) AllReadyH.nil
          case ho219 => (simp only [gA, gB, gC]; rfl)
          go_simp
          refine hK.out _ _ ?_ (fun hHeld => ?_)
          · (try dsimp only); exact HKZ.out _ _ _ _ _ _ hHeld
          clear hK K
          (try simp only [Act.put, sA, sB, sC])
          refine wpAnyH_done (by kernel_rfl) ?_ _
          go_wp2_with fail
          exact bodyPost_ret (v := agV t1) (by simp [results, Tryz.results257, go_sem, ov0, ov1, ov2, ov3, ov4]) rfl ⟨rfl, TB.done (((HTB.out.below (Below.refl _ _).drew).below hb2).below hb3) _ _ _ _ _⟩
      · have hp := fun W => (HP0.out W).mono (fun e w' h => (⟨h.1.trans (if_neg hz2), h.2⟩ : e = .panicked (PV t2) ∧ Below W.heap.size W w'))
        have HPP := Lib.hid hp
        have HZ2 := Lib.hid hz2
        clear hp HP0 hz2
        have htb : TB w FA fn FC VA vn VC op (some ad) n c nm v (((w.alloc (.cells #[.slice FA fn FC, .slice VA vn VC] 248)).alloc (.cells #[.int .i64 op, .slice (some ad) n c, .string nm, .int .i64 v.k, .int .i64 v.i, .bool v.b, .string v.s, .float .f64 v.n] 75)).alloc (.cells #[.int .i64 0, .int .i64 0, .bool false, .string { data := #[] }, .float .f64 0] 55)) := TB_new w FA fn FC VA vn VC op (some ad) n c nm v
        have HHELD := Lib.hid (fun W (hb : TB w FA fn FC VA vn VC op (some ad) n c nm v W) => (show THeld w FA fn FC VA vn VC ad n c p0 A0 n0 c0 m0 y0 W from let q := hq0 W hb.1; ⟨hb.2.2.1, hb.2.2.2.1, hb.2.2.2.2.1.2.1, q.1, q.2.1, q.2.2.1, q.2.2.2.1, q.2.2.2.2.1, q.2.2.2.2.2.1, q.2.2.2.2.2.2.1, q.2.2.2.2.2.2.2⟩))
        clear hq0
        have HKP := Lib.hid (fun (W W' : World) (h : TB w FA fn FC VA vn VC op (some ad) n c nm v W ∧ THeld w FA fn FC VA vn VC ad n c p0 A0 n0 c0 m0 y0 W) (hb : Below W.heap.size W W') => And.intro (h.1.below hb) (HHELD.out _ (h.1.below hb)))
        have HKS := Lib.hid (fun (W : World) (b : Nat) (u0 u1 u2 u3 u4 : Value) (hge : w.heap.size + 3 ≤ b) (h : TB w FA fn FC VA vn VC op (some ad) n c nm v W ∧ THeld w FA fn FC VA vn VC ad n c p0 A0 n0 c0 m0 y0 W) => let hb := below_set5 (Below.refl (w.heap.size + 3) W) hge u0 u1 u2 u3 u4; And.intro (h.1.below3 hb) (HHELD.out _ (h.1.below3 hb)))
        go_enter Tryz.func257, Tryz.ntmps257
        go_upto_region 6 with fail
        generalize ((w.alloc (.cells #[.slice FA fn FC, .slice VA vn VC] 248)).alloc (.cells #[.int .i64 op, .slice (some ad) n c, .string nm, .int .i64 v.k, .int .i64 v.i, .bool v.b, .string v.s, .float .f64 v.n] 75)).alloc (.cells #[.int .i64 0, .int .i64 0, .bool false, .string { data := #[] }, .float .f64 0] 55) = wb at *
        go_cut [5] from 23 to 28 (fun s5 wx => ∃ b, s5 = .pointer (some ⟨b, 0, none⟩) ∧ w.heap.size + 3 ≤ b ∧ TB w FA fn FC VA vn VC op (some ad) n c nm v wx ∧ Bx wx b r1)
        case first =>
          have hS0 : TB w FA fn FC VA vn VC op (some ad) n c nm v wb.drew ∧ THeld w FA fn FC VA vn VC ad n c p0 A0 n0 c0 m0 y0 wb.drew := ⟨htb.below (Below.refl _ _).drew, HHELD.out _ (htb.below (Below.refl _ _).drew)⟩
          refine wp_region_held_drew (S := (fun W => TB w FA fn FC VA vn VC op (some ad) n c nm v W ∧ THeld w FA fn FC VA vn VC ad n c p0 A0 n0 c0 m0 y0 W)) (by kernel_rfl) (hS0) (fun hHeld => ?_)
          refine wpAnyH_take (i := 0) (oi := ?oi252) (v := ?v252) ?hi252 (by kernel_rfl) (by kernel_rfl) (by kernel_rfl) ?hQ252 (Or.inl ⟨?hw252, ?hy252⟩) (by assumption) ?rest252
          case hi252 => (simp only [gA, gB, gC]; rfl)
          case hQ252 => exact fun _ _ _ h => h
          case hw252 => rfl
          case hy252 => (intro w hSw; (try dsimp only at hSw); go_simp; try with_reducible rfl)
          (try simp only [Act.put, sA, sB, sC])
          refine wpAnyH_take (i := 1) (oi := ?oi253) (v := ?v253) ?hi253 (by kernel_rfl) (by kernel_rfl) (by kernel_rfl) ?hQ253 (Or.inl ⟨?hw253, ?hy253⟩) (by assumption) ?rest253
          case hi253 => (simp only [gA, gB, gC]; rfl)
          case hQ253 => exact fun _ _ _ h => h
          case hw253 => rfl
          case hy253 => (intro w hSw; (try dsimp only at hSw); go_simp; try with_reducible rfl)
          (try simp only [Act.put, sA, sB, sC])
          refine wpAnyH_take (i := 2) (oi := ?oi254) (v := ?v254) ?hi254 (by kernel_rfl) (by kernel_rfl) (by kernel_rfl) ?hQ254 (Or.inl ⟨?hw254, ?hy254⟩) (by assumption) ?rest254
          case hi254 => (simp only [gA, gB, gC]; rfl)
          case hQ254 => exact fun _ _ _ h => h
          case hw254 => rfl
          case hy254 => (intro w hSw; (try dsimp only at hSw); go_simp; try with_reducible rfl)
          (try simp only [Act.put, sA, sB, sC])
          refine wpAnyH_take (i := 3) (oi := ?oi255) (v := ?v255) ?hi255 (by kernel_rfl) (by kernel_rfl) (by kernel_rfl) ?hQ255 (Or.inl ⟨?hw255, ?hy255⟩) (by assumption) ?rest255
          case hi255 => (simp only [gA, gB, gC]; rfl)
          case hQ255 => exact fun _ _ _ h => h
          case hw255 => rfl
          case hy255 => (intro w hSw; (try dsimp only at hSw); go_simp; try with_reducible rfl)
          (try simp only [Act.put, sA, sB, sC])
          refine wpAnyH_take (i := 4) (oi := ?oi256) (v := ?v256) ?hi256 (by kernel_rfl) (by kernel_rfl) (by kernel_rfl) ?hQ256 (Or.inl ⟨?hw256, ?hy256⟩) (by assumption) ?rest256
          case hi256 => (simp only [gA, gB, gC]; rfl)
          case hQ256 => exact fun _ _ _ h => h
          case hw256 => rfl
          case hy256 => (intro w hSw; (try dsimp only at hSw); go_simp; try with_reducible rfl)
          (try simp only [Act.put, sA, sB, sC])
          refine wpAnyH_ready (rs := [5, 6]) (by kernel_rfl) (by simp) ?_
          refine AllReadyH.cons (o := ?o257) ?ho257 (fun K hK => ?st257) (AllReadyH.cons (o := ?o258) ?ho258 (fun K hK => ?st258) AllReadyH.nil)
          case ho257 => (simp only [gA, gB, gC]; rfl)
          case ho258 => (simp only [gA, gB, gC]; rfl)
          · go_simp
            refine (H0.out _ (And.left (And.left hHeld))).mono ?_; rintro e wA ⟨rfl, hbA⟩; have hSA := HKP.out _ _ hHeld hbA
            refine hK.out _ _ ?_ (fun hHeld => ?_)
            · (try dsimp only); exact hSA
            clear hK K
            (try simp only [Act.put, sA, sB, sC])
            refine wpAnyH_ready (rs := [6]) (by kernel_rfl) (by simp) ?_
            refine AllReadyH.cons (o := ?o259) ?ho259 (fun K hK => ?st259) AllReadyH.nil
            case ho259 => (simp only [gA, gB, gC]; rfl)
            go_simp
            refine hK.out _ _ ?_ (fun hHeld => ?_)
            · (try dsimp only); exact HKP.out _ _ hSA (alloc1 _ _)
            clear hK K
            (try simp only [Act.put, sA, sB, sC])
            refine wpAnyH_ready (rs := [7]) (by kernel_rfl) (by simp) ?_
            refine AllReadyH.cons (o := ?o260) ?ho260 (fun K hK => ?st260) AllReadyH.nil
            case ho260 => (simp only [gA, gB, gC]; rfl)
            go_simp
            refine hK.out _ _ ?_ (fun hHeld => ?_)
            · (try dsimp only); exact HKP.out _ _ hSA (alloc1 _ _)
            clear hK K
            (try simp only [Act.put, sA, sB, sC])
            refine wpAnyH_done (by kernel_rfl) ?_ _
            go_wp2_with fail
            go_meet
            exact ⟨_, rfl, hSA.1.2.1, hHeld.1, Bx.new _ r1⟩
          · go_simp
            refine hK.out _ _ ?_ (fun hHeld => ?_)
            · (try dsimp only); exact HKP.out _ _ hS0 (alloc1 _ _)
            clear hK K
            (try simp only [Act.put, sA, sB, sC])
            refine wpAnyH_ready (rs := [5]) (by kernel_rfl) (by simp) ?_
            refine AllReadyH.cons (o := ?o261) ?ho261 (fun K hK => ?st261) AllReadyH.nil
            case ho261 => (simp only [gA, gB, gC]; rfl)
            go_simp
            refine (H0.out _ (And.left (And.left hHeld))).mono ?_; rintro e wA ⟨rfl, hbA⟩; have hSA := HKP.out _ _ hHeld hbA; obtain ⟨e0, e1, e2, e3, e4, ef⟩ := newcells hbA
            refine hK.out _ _ ?_ (fun hHeld => ?_)
            · (try dsimp only); exact hSA
            clear hK K
            (try simp only [Act.put, sA, sB, sC])
            refine wpAnyH_ready (rs := [7]) (by kernel_rfl) (by simp) ?_
            refine AllReadyH.cons (o := ?o262) ?ho262 (fun K hK => ?st262) AllReadyH.nil
            case ho262 => (simp only [gA, gB, gC]; rfl)
            go_simp
            refine hK.out _ _ ?_ (fun hHeld => ?_)
            · (try dsimp only); exact HKS.out _ _ _ _ _ _ _ htb.2.1 hSA
            clear hK K
            (try simp only [Act.put, sA, sB, sC])
            refine wpAnyH_done (by kernel_rfl) ?_ _
            go_wp2_with fail
            go_meet
            exact ⟨_, rfl, htb.2.1, hHeld.1, bx_set e0 e1 e2 e3 e4⟩
        case rest =>
          clear htb HHELD HKP HKS
          obtain ⟨b, rfl, hbge, hTB, hx0, hx1, hx2, hx3, hx4⟩ := hcut
          obtain ⟨d0, d1, d2, d3, d4, d5, d6, d7⟩ := hTB.2.2.2.2.1
          have g0 := hTB.2.2.1
          have g1 := hTB.2.2.2.1
          have HT := Lib.hid (fun W (hb : TC w FA fn FC VA vn VC op (some ad) n c nm v W) => (show THeldK w FA fn FC VA vn VC op ad n c ⟨ad.block, ad.off + 8, none⟩ p1 A1 n1 c1 m1 y1 W from let q := HQ1.out W hb.1; ⟨hb.2.2.1, hb.2.2.2.1, hb.2.2.2.2.1, hb.2.2.2.2.2.1, q.1, q.2.1, q.2.2.1, q.2.2.2.1, q.2.2.2.2.1, q.2.2.2.2.2.1, q.2.2.2.2.2.2.1, q.2.2.2.2.2.2.2⟩))
          have HK1 := Lib.hid (fun (W W' : World) (h : (TC w FA fn FC VA vn VC op (some ad) n c nm v W ∧ THeldK w FA fn FC VA vn VC op ad n c ⟨ad.block, ad.off + 8, none⟩ p1 A1 n1 c1 m1 y1 W ∧ W.cell? ⟨b, 0, none⟩ = some (.int .i64 r1.k) ∧ W.cell? ⟨b, 1, none⟩ = some (.int .i64 r1.i) ∧ W.cell? ⟨b, 2, none⟩ = some (.bool r1.b) ∧ W.cell? ⟨b, 3, none⟩ = some (.string r1.s) ∧ W.cell? ⟨b, 4, none⟩ = some (.float .f64 r1.n))) (hb : Below W.heap.size W W') => (show (TC w FA fn FC VA vn VC op (some ad) n c nm v W' ∧ THeldK w FA fn FC VA vn VC op ad n c ⟨ad.block, ad.off + 8, none⟩ p1 A1 n1 c1 m1 y1 W' ∧ W'.cell? ⟨b, 0, none⟩ = some (.int .i64 r1.k) ∧ W'.cell? ⟨b, 1, none⟩ = some (.int .i64 r1.i) ∧ W'.cell? ⟨b, 2, none⟩ = some (.bool r1.b) ∧ W'.cell? ⟨b, 3, none⟩ = some (.string r1.s) ∧ W'.cell? ⟨b, 4, none⟩ = some (.float .f64 r1.n)) from ⟨h.1.below2 (hb.mono h.1.2.1), HT.out _ (h.1.below2 (hb.mono h.1.2.1)), ((show Bx W b r1 from h.2.2).below hb)⟩))
          have HKZ := Lib.hid (fun (W : World) (u0 u1 u2 u3 u4 : Value) (h : (TC w FA fn FC VA vn VC op (some ad) n c nm v W ∧ THeldK w FA fn FC VA vn VC op ad n c ⟨ad.block, ad.off + 8, none⟩ p1 A1 n1 c1 m1 y1 W ∧ W.cell? ⟨b, 0, none⟩ = some (.int .i64 r1.k) ∧ W.cell? ⟨b, 1, none⟩ = some (.int .i64 r1.i) ∧ W.cell? ⟨b, 2, none⟩ = some (.bool r1.b) ∧ W.cell? ⟨b, 3, none⟩ = some (.string r1.s) ∧ W.cell? ⟨b, 4, none⟩ = some (.float .f64 r1.n))) => let hb := below_set5 (Below.refl (w.heap.size + 2) W) (show w.heap.size + 2 ≤ w.heap.size + 1 + 1 by omega) u0 u1 u2 u3 u4; (show (TC w FA fn FC VA vn VC op (some ad) n c nm v (((((W.setCell ⟨w.heap.size + 1 + 1, 0, none⟩ u0).setCell ⟨w.heap.size + 1 + 1, 1, none⟩ u1).setCell ⟨w.heap.size + 1 + 1, 2, none⟩ u2).setCell ⟨w.heap.size + 1 + 1, 3, none⟩ u3).setCell ⟨w.heap.size + 1 + 1, 4, none⟩ u4) ∧ THeldK w FA fn FC VA vn VC op ad n c ⟨ad.block, ad.off + 8, none⟩ p1 A1 n1 c1 m1 y1 (((((W.setCell ⟨w.heap.size + 1 + 1, 0, none⟩ u0).setCell ⟨w.heap.size + 1 + 1, 1, none⟩ u1).setCell ⟨w.heap.size + 1 + 1, 2, none⟩ u2).setCell ⟨w.heap.size + 1 + 1, 3, none⟩ u3).setCell ⟨w.heap.size + 1 + 1, 4, none⟩ u4) ∧ (((((W.setCell ⟨w.heap.size + 1 + 1, 0, none⟩ u0).setCell ⟨w.heap.size + 1 + 1, 1, none⟩ u1).setCell ⟨w.heap.size + 1 + 1, 2, none⟩ u2).setCell ⟨w.heap.size + 1 + 1, 3, none⟩ u3).setCell ⟨w.heap.size + 1 + 1, 4, none⟩ u4).cell? ⟨b, 0, none⟩ = some (.int .i64 r1.k) ∧ (((((W.setCell ⟨w.heap.size + 1 + 1, 0, none⟩ u0).setCell ⟨w.heap.size + 1 + 1, 1, none⟩ u1).setCell ⟨w.heap.size + 1 + 1, 2, none⟩ u2).setCell ⟨w.heap.size + 1 + 1, 3, none⟩ u3).setCell ⟨w.heap.size + 1 + 1, 4, none⟩ u4).cell? ⟨b, 1, none⟩ = some (.int .i64 r1.i) ∧ (((((W.setCell ⟨w.heap.size + 1 + 1, 0, none⟩ u0).setCell ⟨w.heap.size + 1 + 1, 1, none⟩ u1).setCell ⟨w.heap.size + 1 + 1, 2, none⟩ u2).setCell ⟨w.heap.size + 1 + 1, 3, none⟩ u3).setCell ⟨w.heap.size + 1 + 1, 4, none⟩ u4).cell? ⟨b, 2, none⟩ = some (.bool r1.b) ∧ (((((W.setCell ⟨w.heap.size + 1 + 1, 0, none⟩ u0).setCell ⟨w.heap.size + 1 + 1, 1, none⟩ u1).setCell ⟨w.heap.size + 1 + 1, 2, none⟩ u2).setCell ⟨w.heap.size + 1 + 1, 3, none⟩ u3).setCell ⟨w.heap.size + 1 + 1, 4, none⟩ u4).cell? ⟨b, 3, none⟩ = some (.string r1.s) ∧ (((((W.setCell ⟨w.heap.size + 1 + 1, 0, none⟩ u0).setCell ⟨w.heap.size + 1 + 1, 1, none⟩ u1).setCell ⟨w.heap.size + 1 + 1, 2, none⟩ u2).setCell ⟨w.heap.size + 1 + 1, 3, none⟩ u3).setCell ⟨w.heap.size + 1 + 1, 4, none⟩ u4).cell? ⟨b, 4, none⟩ = some (.float .f64 r1.n)) from ⟨h.1.below2 hb, HT.out _ (h.1.below2 hb), bx_off (show Bx W b r1 from h.2.2) (by omega) u0 u1 u2 u3 u4⟩))
          have hS1 : (fun W => (TC w FA fn FC VA vn VC op (some ad) n c nm v W ∧ THeldK w FA fn FC VA vn VC op ad n c ⟨ad.block, ad.off + 8, none⟩ p1 A1 n1 c1 m1 y1 W ∧ W.cell? ⟨b, 0, none⟩ = some (.int .i64 r1.k) ∧ W.cell? ⟨b, 1, none⟩ = some (.int .i64 r1.i) ∧ W.cell? ⟨b, 2, none⟩ = some (.bool r1.b) ∧ W.cell? ⟨b, 3, none⟩ = some (.string r1.s) ∧ W.cell? ⟨b, 4, none⟩ = some (.float .f64 r1.n))) wc.drew := ⟨hTB.tc.below2 (Below.refl _ _).drew, HT.out _ (hTB.tc.below2 (Below.refl _ _).drew), hx0, hx1, hx2, hx3, hx4⟩
          have HTB := Lib.hid hTB
          go_wp2_with fail
          refine wp_region_held_drew (S := (fun W => (TC w FA fn FC VA vn VC op (some ad) n c nm v W ∧ THeldK w FA fn FC VA vn VC op ad n c ⟨ad.block, ad.off + 8, none⟩ p1 A1 n1 c1 m1 y1 W ∧ W.cell? ⟨b, 0, none⟩ = some (.int .i64 r1.k) ∧ W.cell? ⟨b, 1, none⟩ = some (.int .i64 r1.i) ∧ W.cell? ⟨b, 2, none⟩ = some (.bool r1.b) ∧ W.cell? ⟨b, 3, none⟩ = some (.string r1.s) ∧ W.cell? ⟨b, 4, none⟩ = some (.float .f64 r1.n)))) (by kernel_rfl) (hS1) (fun hHeld => ?_)
          refine wpAnyH_take (i := 0) (oi := ?oi220) (v := ?v220) ?hi220 (by kernel_rfl) (by kernel_rfl) (by kernel_rfl) ?hQ220 (Or.inl ⟨?hw220, ?hy220⟩) (by assumption) ?rest220
          case hi220 => (simp only [gA, gB, gC]; rfl)
          case hQ220 => exact fun _ _ _ h => h
          case hw220 => rfl
          case hy220 => (intro w hSw; (try dsimp only at hSw); go_simp; try with_reducible rfl)
          (try simp only [Act.put, sA, sB, sC])
          refine wpAnyH_take (i := 1) (oi := ?oi221) (v := ?v221) ?hi221 (by kernel_rfl) (by kernel_rfl) (by kernel_rfl) ?hQ221 (Or.inl ⟨?hw221, ?hy221⟩) (by assumption) ?rest221
          case hi221 => (simp only [gA, gB, gC]; rfl)
          case hQ221 => exact fun _ _ _ h => h
          case hw221 => rfl
          case hy221 => (intro w hSw; (try dsimp only at hSw); go_simp; try with_reducible rfl)
          (try simp only [Act.put, sA, sB, sC])
          refine wpAnyH_take (i := 2) (oi := ?oi222) (v := ?v222) ?hi222 (by kernel_rfl) (by kernel_rfl) (by kernel_rfl) ?hQ222 (Or.inl ⟨?hw222, ?hy222⟩) (by assumption) ?rest222
          case hi222 => (simp only [gA, gB, gC]; rfl)
          case hQ222 => exact fun _ _ _ h => h
          case hw222 => rfl
          case hy222 => (intro w hSw; (try dsimp only at hSw); go_simp; try with_reducible rfl)
          (try simp only [Act.put, sA, sB, sC])
          refine wpAnyH_take (i := 3) (oi := ?oi223) (v := ?v223) ?hi223 (by kernel_rfl) (by kernel_rfl) (by kernel_rfl) ?hQ223 (Or.inl ⟨?hw223, ?hy223⟩) (by assumption) ?rest223
          case hi223 => (simp only [gA, gB, gC]; rfl)
          case hQ223 => exact fun _ _ _ h => h
          case hw223 => rfl
          case hy223 => (intro w hSw; (try dsimp only at hSw); go_simp; try with_reducible rfl)
          (try simp only [Act.put, sA, sB, sC])
          refine wpAnyH_take (i := 4) (oi := ?oi224) (v := ?v224) ?hi224 (by kernel_rfl) (by kernel_rfl) (by kernel_rfl) ?hQ224 (Or.inl ⟨?hw224, ?hy224⟩) (by assumption) ?rest224
          case hi224 => (simp only [gA, gB, gC]; rfl)
          case hQ224 => exact fun _ _ _ h => h
          case hw224 => rfl
          case hy224 => (intro w hSw; (try dsimp only at hSw); go_simp; try with_reducible rfl)
          (try simp only [Act.put, sA, sB, sC])
          refine wpAnyH_take (i := 5) (oi := ?oi225) (v := ?v225) ?hi225 (by kernel_rfl) (by kernel_rfl) (by kernel_rfl) ?hQ225 (Or.inl ⟨?hw225, ?hy225⟩) (by assumption) ?rest225
          case hi225 => (simp only [gA, gB, gC]; rfl)
          case hQ225 => exact fun _ _ _ h => h
          case hw225 => rfl
          case hy225 => (intro w hSw; (try dsimp only at hSw); go_simp; try with_reducible rfl)
          (try simp only [Act.put, sA, sB, sC])
          refine wpAnyH_take (i := 6) (oi := ?oi226) (v := ?v226) ?hi226 (by kernel_rfl) (by kernel_rfl) (by kernel_rfl) ?hQ226 (Or.inl ⟨?hw226, ?hy226⟩) (by assumption) ?rest226
          case hi226 => (simp only [gA, gB, gC]; rfl)
          case hQ226 => exact fun _ _ _ h => h
          case hw226 => rfl
          case hy226 => (intro w hSw; (try dsimp only at hSw); go_simp; try with_reducible rfl)
          (try simp only [Act.put, sA, sB, sC])
          refine wpAnyH_take (i := 7) (oi := ?oi227) (v := ?v227) ?hi227 (by kernel_rfl) (by kernel_rfl) (by kernel_rfl) ?hQ227 (Or.inl ⟨?hw227, ?hy227⟩) (by assumption) ?rest227
          case hi227 => (simp only [gA, gB, gC]; rfl)
          case hQ227 => exact fun _ _ _ h => h
          case hw227 => rfl
          case hy227 => (intro w hSw; (try dsimp only at hSw); go_simp; try with_reducible rfl)
          (try simp only [Act.put, sA, sB, sC])
          refine wpAnyH_ready (rs := [8]) (by kernel_rfl) (by simp) ?_
          refine AllReadyH.cons (o := ?o228) ?ho228 (fun K hK => ?st228) AllReadyH.nil
          case ho228 => (simp only [gA, gB, gC]; rfl)
          go_simp
          refine (H1.out _ hHeld.1.1).mono ?_; rintro e w2 ⟨rfl, hb2⟩
          refine hK.out _ _ ?_ (fun hHeld => ?_)
          · (try dsimp only); exact HK1.out _ _ hHeld hb2
          clear hK K
          (try simp only [Act.put, sA, sB, sC])
          refine wpAnyH_ready (rs := [9]) (by kernel_rfl) (by simp) ?_
          refine AllReadyH.cons (o := ?o229) ?ho229 (fun K hK => ?st229) AllReadyH.nil
          case ho229 => (simp only [gA, gB, gC]; rfl)
          go_simp
          refine (HPP.out _).mono ?_; rintro e w3 ⟨rfl, hb3⟩
          exact ⟨rfl, (if_neg HZ2.out).symm, (((HTB.out.below (Below.refl _ _).drew).below hb2).below hb3).1⟩
    · have h1 := fun W hb => (H1.out W hb).mono (fun e w' h => (⟨h.1.trans (if_neg hz1), h.2⟩ : e = .panicked (PV s2) ∧ Below W.heap.size W w'))
      clear H1
      have H1 := Lib.hid h1
      have HZ1 := Lib.hid hz1
      rw [if_pos hz1]
      clear h1 hz1 hp
      have htb : TB w FA fn FC VA vn VC op (some ad) n c nm v (((w.alloc (.cells #[.slice FA fn FC, .slice VA vn VC] 248)).alloc (.cells #[.int .i64 op, .slice (some ad) n c, .string nm, .int .i64 v.k, .int .i64 v.i, .bool v.b, .string v.s, .float .f64 v.n] 75)).alloc (.cells #[.int .i64 0, .int .i64 0, .bool false, .string { data := #[] }, .float .f64 0] 55)) := TB_new w FA fn FC VA vn VC op (some ad) n c nm v
      have HHELD := Lib.hid (fun W (hb : TB w FA fn FC VA vn VC op (some ad) n c nm v W) => (show THeld w FA fn FC VA vn VC ad n c p0 A0 n0 c0 m0 y0 W from let q := hq0 W hb.1; ⟨hb.2.2.1, hb.2.2.2.1, hb.2.2.2.2.1.2.1, q.1, q.2.1, q.2.2.1, q.2.2.2.1, q.2.2.2.2.1, q.2.2.2.2.2.1, q.2.2.2.2.2.2.1, q.2.2.2.2.2.2.2⟩))
      clear hq0
      have HKP := Lib.hid (fun (W W' : World) (h : TB w FA fn FC VA vn VC op (some ad) n c nm v W ∧ THeld w FA fn FC VA vn VC ad n c p0 A0 n0 c0 m0 y0 W) (hb : Below W.heap.size W W') => And.intro (h.1.below hb) (HHELD.out _ (h.1.below hb)))
      have HKS := Lib.hid (fun (W : World) (b : Nat) (u0 u1 u2 u3 u4 : Value) (hge : w.heap.size + 3 ≤ b) (h : TB w FA fn FC VA vn VC op (some ad) n c nm v W ∧ THeld w FA fn FC VA vn VC ad n c p0 A0 n0 c0 m0 y0 W) => let hb := below_set5 (Below.refl (w.heap.size + 3) W) hge u0 u1 u2 u3 u4; And.intro (h.1.below3 hb) (HHELD.out _ (h.1.below3 hb)))
      go_enter Tryz.func257, Tryz.ntmps257
      go_upto_region 6 with fail
      generalize ((w.alloc (.cells #[.slice FA fn FC, .slice VA vn VC] 248)).alloc (.cells #[.int .i64 op, .slice (some ad) n c, .string nm, .int .i64 v.k, .int .i64 v.i, .bool v.b, .string v.s, .float .f64 v.n] 75)).alloc (.cells #[.int .i64 0, .int .i64 0, .bool false, .string { data := #[] }, .float .f64 0] 55) = wb at *
      go_cut [5] from 23 to 28 (fun s5 wx => ∃ b, s5 = .pointer (some ⟨b, 0, none⟩) ∧ w.heap.size + 3 ≤ b ∧ TB w FA fn FC VA vn VC op (some ad) n c nm v wx ∧ Bx wx b r1)
      case first =>
        have hS0 : TB w FA fn FC VA vn VC op (some ad) n c nm v wb.drew ∧ THeld w FA fn FC VA vn VC ad n c p0 A0 n0 c0 m0 y0 wb.drew := ⟨htb.below (Below.refl _ _).drew, HHELD.out _ (htb.below (Below.refl _ _).drew)⟩
        refine wp_region_held_drew (S := (fun W => TB w FA fn FC VA vn VC op (some ad) n c nm v W ∧ THeld w FA fn FC VA vn VC ad n c p0 A0 n0 c0 m0 y0 W)) (by kernel_rfl) (hS0) (fun hHeld => ?_)
        refine wpAnyH_take (i := 0) (oi := ?oi230) (v := ?v230) ?hi230 (by kernel_rfl) (by kernel_rfl) (by kernel_rfl) ?hQ230 (Or.inl ⟨?hw230, ?hy230⟩) (by assumption) ?rest230
        case hi230 => (simp only [gA, gB, gC]; rfl)
        case hQ230 => exact fun _ _ _ h => h
        case hw230 => rfl
        case hy230 => (intro w hSw; (try dsimp only at hSw); go_simp; try with_reducible rfl)
        (try simp only [Act.put, sA, sB, sC])
        refine wpAnyH_take (i := 1) (oi := ?oi231) (v := ?v231) ?hi231 (by kernel_rfl) (by kernel_rfl) (by kernel_rfl) ?hQ231 (Or.inl ⟨?hw231, ?hy231⟩) (by assumption) ?rest231
        case hi231 => (simp only [gA, gB, gC]; rfl)
        case hQ231 => exact fun _ _ _ h => h
        case hw231 => rfl
        case hy231 => (intro w hSw; (try dsimp only at hSw); go_simp; try with_reducible rfl)
        (try simp only [Act.put, sA, sB, sC])
        refine wpAnyH_take (i := 2) (oi := ?oi232) (v := ?v232) ?hi232 (by kernel_rfl) (by kernel_rfl) (by kernel_rfl) ?hQ232 (Or.inl ⟨?hw232, ?hy232⟩) (by assumption) ?rest232
        case hi232 => (simp only [gA, gB, gC]; rfl)
        case hQ232 => exact fun _ _ _ h => h
        case hw232 => rfl
        case hy232 => (intro w hSw; (try dsimp only at hSw); go_simp; try with_reducible rfl)
        (try simp only [Act.put, sA, sB, sC])
        refine wpAnyH_take (i := 3) (oi := ?oi233) (v := ?v233) ?hi233 (by kernel_rfl) (by kernel_rfl) (by kernel_rfl) ?hQ233 (Or.inl ⟨?hw233, ?hy233⟩) (by assumption) ?rest233
        case hi233 => (simp only [gA, gB, gC]; rfl)
        case hQ233 => exact fun _ _ _ h => h
        case hw233 => rfl
        case hy233 => (intro w hSw; (try dsimp only at hSw); go_simp; try with_reducible rfl)
        (try simp only [Act.put, sA, sB, sC])
        refine wpAnyH_take (i := 4) (oi := ?oi234) (v := ?v234) ?hi234 (by kernel_rfl) (by kernel_rfl) (by kernel_rfl) ?hQ234 (Or.inl ⟨?hw234, ?hy234⟩) (by assumption) ?rest234
        case hi234 => (simp only [gA, gB, gC]; rfl)
        case hQ234 => exact fun _ _ _ h => h
        case hw234 => rfl
        case hy234 => (intro w hSw; (try dsimp only at hSw); go_simp; try with_reducible rfl)
        (try simp only [Act.put, sA, sB, sC])
        refine wpAnyH_ready (rs := [5, 6]) (by kernel_rfl) (by simp) ?_
        refine AllReadyH.cons (o := ?o235) ?ho235 (fun K hK => ?st235) (AllReadyH.cons (o := ?o236) ?ho236 (fun K hK => ?st236) AllReadyH.nil)
        case ho235 => (simp only [gA, gB, gC]; rfl)
        case ho236 => (simp only [gA, gB, gC]; rfl)
        · go_simp
          refine (H0.out _ (And.left (And.left hHeld))).mono ?_; rintro e wA ⟨rfl, hbA⟩; have hSA := HKP.out _ _ hHeld hbA
          refine hK.out _ _ ?_ (fun hHeld => ?_)
          · (try dsimp only); exact hSA
          clear hK K
          (try simp only [Act.put, sA, sB, sC])
          refine wpAnyH_ready (rs := [6]) (by kernel_rfl) (by simp) ?_
          refine AllReadyH.cons (o := ?o237) ?ho237 (fun K hK => ?st237) AllReadyH.nil
          case ho237 => (simp only [gA, gB, gC]; rfl)
          go_simp
          refine hK.out _ _ ?_ (fun hHeld => ?_)
          · (try dsimp only); exact HKP.out _ _ hSA (alloc1 _ _)
          clear hK K
          (try simp only [Act.put, sA, sB, sC])
          refine wpAnyH_ready (rs := [7]) (by kernel_rfl) (by simp) ?_
          refine AllReadyH.cons (o := ?o238) ?ho238 (fun K hK => ?st238) AllReadyH.nil
          case ho238 => (simp only [gA, gB, gC]; rfl)
          go_simp
          refine hK.out _ _ ?_ (fun hHeld => ?_)
          · (try dsimp only); exact HKP.out _ _ hSA (alloc1 _ _)
          clear hK K
          (try simp only [Act.put, sA, sB, sC])
          refine wpAnyH_done (by kernel_rfl) ?_ _
          go_wp2_with fail
          go_meet
          exact ⟨_, rfl, hSA.1.2.1, hHeld.1, Bx.new _ r1⟩
        · go_simp
          refine hK.out _ _ ?_ (fun hHeld => ?_)
          · (try dsimp only); exact HKP.out _ _ hS0 (alloc1 _ _)
          clear hK K
          (try simp only [Act.put, sA, sB, sC])
          refine wpAnyH_ready (rs := [5]) (by kernel_rfl) (by simp) ?_
          refine AllReadyH.cons (o := ?o239) ?ho239 (fun K hK => ?st239) AllReadyH.nil
          case ho239 => (simp only [gA, gB, gC]; rfl)
          go_simp
          refine (H0.out _ (And.left (And.left hHeld))).mono ?_; rintro e wA ⟨rfl, hbA⟩; have hSA := HKP.out _ _ hHeld hbA; obtain ⟨e0, e1, e2, e3, e4, ef⟩ := newcells hbA
          refine hK.out _ _ ?_ (fun hHeld => ?_)
          · (try dsimp only); exact hSA
          clear hK K
          (try simp only [Act.put, sA, sB, sC])
          refine wpAnyH_ready (rs := [7]) (by kernel_rfl) (by simp) ?_
          refine AllReadyH.cons (o := ?o240) ?ho240 (fun K hK => ?st240) AllReadyH.nil
          case ho240 => (simp only [gA, gB, gC]; rfl)
          go_simp
          refine hK.out _ _ ?_ (fun hHeld => ?_)
          · (try dsimp only); exact HKS.out _ _ _ _ _ _ _ htb.2.1 hSA
          clear hK K
          (try simp only [Act.put, sA, sB, sC])
          refine wpAnyH_done (by kernel_rfl) ?_ _
          go_wp2_with fail
          go_meet
          exact ⟨_, rfl, htb.2.1, hHeld.1, bx_set e0 e1 e2 e3 e4⟩
      case rest =>
        clear htb HHELD HKP HKS
        obtain ⟨b, rfl, hbge, hTB, hx0, hx1, hx2, hx3, hx4⟩ := hcut
        obtain ⟨d0, d1, d2, d3, d4, d5, d6, d7⟩ := hTB.2.2.2.2.1
        have g0 := hTB.2.2.1
        have g1 := hTB.2.2.2.1
        have HT := Lib.hid (fun W (hb : TC w FA fn FC VA vn VC op (some ad) n c nm v W) => (show THeldK w FA fn FC VA vn VC op ad n c ⟨ad.block, ad.off + 8, none⟩ p1 A1 n1 c1 m1 y1 W from let q := HQ1.out W hb.1; ⟨hb.2.2.1, hb.2.2.2.1, hb.2.2.2.2.1, hb.2.2.2.2.2.1, q.1, q.2.1, q.2.2.1, q.2.2.2.1, q.2.2.2.2.1, q.2.2.2.2.2.1, q.2.2.2.2.2.2.1, q.2.2.2.2.2.2.2⟩))
        have HK1 := Lib.hid (fun (W W' : World) (h : (TC w FA fn FC VA vn VC op (some ad) n c nm v W ∧ THeldK w FA fn FC VA vn VC op ad n c ⟨ad.block, ad.off + 8, none⟩ p1 A1 n1 c1 m1 y1 W ∧ W.cell? ⟨b, 0, none⟩ = some (.int .i64 r1.k) ∧ W.cell? ⟨b, 1, none⟩ = some (.int .i64 r1.i) ∧ W.cell? ⟨b, 2, none⟩ = some (.bool r1.b) ∧ W.cell? ⟨b, 3, none⟩ = some (.string r1.s) ∧ W.cell? ⟨b, 4, none⟩ = some (.float .f64 r1.n))) (hb : Below W.heap.size W W') => (show (TC w FA fn FC VA vn VC op (some ad) n c nm v W' ∧ THeldK w FA fn FC VA vn VC op ad n c ⟨ad.block, ad.off + 8, none⟩ p1 A1 n1 c1 m1 y1 W' ∧ W'.cell? ⟨b, 0, none⟩ = some (.int .i64 r1.k) ∧ W'.cell? ⟨b, 1, none⟩ = some (.int .i64 r1.i) ∧ W'.cell? ⟨b, 2, none⟩ = some (.bool r1.b) ∧ W'.cell? ⟨b, 3, none⟩ = some (.string r1.s) ∧ W'.cell? ⟨b, 4, none⟩ = some (.float .f64 r1.n)) from ⟨h.1.below2 (hb.mono h.1.2.1), HT.out _ (h.1.below2 (hb.mono h.1.2.1)), ((show Bx W b r1 from h.2.2).below hb)⟩))
        have HKZ := Lib.hid (fun (W : World) (u0 u1 u2 u3 u4 : Value) (h : (TC w FA fn FC VA vn VC op (some ad) n c nm v W ∧ THeldK w FA fn FC VA vn VC op ad n c ⟨ad.block, ad.off + 8, none⟩ p1 A1 n1 c1 m1 y1 W ∧ W.cell? ⟨b, 0, none⟩ = some (.int .i64 r1.k) ∧ W.cell? ⟨b, 1, none⟩ = some (.int .i64 r1.i) ∧ W.cell? ⟨b, 2, none⟩ = some (.bool r1.b) ∧ W.cell? ⟨b, 3, none⟩ = some (.string r1.s) ∧ W.cell? ⟨b, 4, none⟩ = some (.float .f64 r1.n))) => let hb := below_set5 (Below.refl (w.heap.size + 2) W) (show w.heap.size + 2 ≤ w.heap.size + 1 + 1 by omega) u0 u1 u2 u3 u4; (show (TC w FA fn FC VA vn VC op (some ad) n c nm v (((((W.setCell ⟨w.heap.size + 1 + 1, 0, none⟩ u0).setCell ⟨w.heap.size + 1 + 1, 1, none⟩ u1).setCell ⟨w.heap.size + 1 + 1, 2, none⟩ u2).setCell ⟨w.heap.size + 1 + 1, 3, none⟩ u3).setCell ⟨w.heap.size + 1 + 1, 4, none⟩ u4) ∧ THeldK w FA fn FC VA vn VC op ad n c ⟨ad.block, ad.off + 8, none⟩ p1 A1 n1 c1 m1 y1 (((((W.setCell ⟨w.heap.size + 1 + 1, 0, none⟩ u0).setCell ⟨w.heap.size + 1 + 1, 1, none⟩ u1).setCell ⟨w.heap.size + 1 + 1, 2, none⟩ u2).setCell ⟨w.heap.size + 1 + 1, 3, none⟩ u3).setCell ⟨w.heap.size + 1 + 1, 4, none⟩ u4) ∧ (((((W.setCell ⟨w.heap.size + 1 + 1, 0, none⟩ u0).setCell ⟨w.heap.size + 1 + 1, 1, none⟩ u1).setCell ⟨w.heap.size + 1 + 1, 2, none⟩ u2).setCell ⟨w.heap.size + 1 + 1, 3, none⟩ u3).setCell ⟨w.heap.size + 1 + 1, 4, none⟩ u4).cell? ⟨b, 0, none⟩ = some (.int .i64 r1.k) ∧ (((((W.setCell ⟨w.heap.size + 1 + 1, 0, none⟩ u0).setCell ⟨w.heap.size + 1 + 1, 1, none⟩ u1).setCell ⟨w.heap.size + 1 + 1, 2, none⟩ u2).setCell ⟨w.heap.size + 1 + 1, 3, none⟩ u3).setCell ⟨w.heap.size + 1 + 1, 4, none⟩ u4).cell? ⟨b, 1, none⟩ = some (.int .i64 r1.i) ∧ (((((W.setCell ⟨w.heap.size + 1 + 1, 0, none⟩ u0).setCell ⟨w.heap.size + 1 + 1, 1, none⟩ u1).setCell ⟨w.heap.size + 1 + 1, 2, none⟩ u2).setCell ⟨w.heap.size + 1 + 1, 3, none⟩ u3).setCell ⟨w.heap.size + 1 + 1, 4, none⟩ u4).cell? ⟨b, 2, none⟩ = some (.bool r1.b) ∧ (((((W.setCell ⟨w.heap.size + 1 + 1, 0, none⟩ u0).setCell ⟨w.heap.size + 1 + 1, 1, none⟩ u1).setCell ⟨w.heap.size + 1 + 1, 2, none⟩ u2).setCell ⟨w.heap.size + 1 + 1, 3, none⟩ u3).setCell ⟨w.heap.size + 1 + 1, 4, none⟩ u4).cell? ⟨b, 3, none⟩ = some (.string r1.s) ∧ (((((W.setCell ⟨w.heap.size + 1 + 1, 0, none⟩ u0).setCell ⟨w.heap.size + 1 + 1, 1, none⟩ u1).setCell ⟨w.heap.size + 1 + 1, 2, none⟩ u2).setCell ⟨w.heap.size + 1 + 1, 3, none⟩ u3).setCell ⟨w.heap.size + 1 + 1, 4, none⟩ u4).cell? ⟨b, 4, none⟩ = some (.float .f64 r1.n)) from ⟨h.1.below2 hb, HT.out _ (h.1.below2 hb), bx_off (show Bx W b r1 from h.2.2) (by omega) u0 u1 u2 u3 u4⟩))
        have hS1 : (fun W => (TC w FA fn FC VA vn VC op (some ad) n c nm v W ∧ THeldK w FA fn FC VA vn VC op ad n c ⟨ad.block, ad.off + 8, none⟩ p1 A1 n1 c1 m1 y1 W ∧ W.cell? ⟨b, 0, none⟩ = some (.int .i64 r1.k) ∧ W.cell? ⟨b, 1, none⟩ = some (.int .i64 r1.i) ∧ W.cell? ⟨b, 2, none⟩ = some (.bool r1.b) ∧ W.cell? ⟨b, 3, none⟩ = some (.string r1.s) ∧ W.cell? ⟨b, 4, none⟩ = some (.float .f64 r1.n))) wc.drew := ⟨hTB.tc.below2 (Below.refl _ _).drew, HT.out _ (hTB.tc.below2 (Below.refl _ _).drew), hx0, hx1, hx2, hx3, hx4⟩
        have HTB := Lib.hid hTB
        go_wp2_with fail
        refine wp_region_held_drew (S := (fun W => (TC w FA fn FC VA vn VC op (some ad) n c nm v W ∧ THeldK w FA fn FC VA vn VC op ad n c ⟨ad.block, ad.off + 8, none⟩ p1 A1 n1 c1 m1 y1 W ∧ W.cell? ⟨b, 0, none⟩ = some (.int .i64 r1.k) ∧ W.cell? ⟨b, 1, none⟩ = some (.int .i64 r1.i) ∧ W.cell? ⟨b, 2, none⟩ = some (.bool r1.b) ∧ W.cell? ⟨b, 3, none⟩ = some (.string r1.s) ∧ W.cell? ⟨b, 4, none⟩ = some (.float .f64 r1.n)))) (by kernel_rfl) (hS1) (fun hHeld => ?_)
        refine wpAnyH_take (i := 0) (oi := ?oi200) (v := ?v200) ?hi200 (by kernel_rfl) (by kernel_rfl) (by kernel_rfl) ?hQ200 (Or.inl ⟨?hw200, ?hy200⟩) (by assumption) ?rest200
        case hi200 => (simp only [gA, gB, gC]; rfl)
        case hQ200 => exact fun _ _ _ h => h
        case hw200 => rfl
        case hy200 => (intro w hSw; (try dsimp only at hSw); go_simp; try with_reducible rfl)
        (try simp only [Act.put, sA, sB, sC])
        refine wpAnyH_take (i := 1) (oi := ?oi201) (v := ?v201) ?hi201 (by kernel_rfl) (by kernel_rfl) (by kernel_rfl) ?hQ201 (Or.inl ⟨?hw201, ?hy201⟩) (by assumption) ?rest201
        case hi201 => (simp only [gA, gB, gC]; rfl)
        case hQ201 => exact fun _ _ _ h => h
        case hw201 => rfl
        case hy201 => (intro w hSw; (try dsimp only at hSw); go_simp; try with_reducible rfl)
        (try simp only [Act.put, sA, sB, sC])
        refine wpAnyH_take (i := 2) (oi := ?oi202) (v := ?v202) ?hi202 (by kernel_rfl) (by kernel_rfl) (by kernel_rfl) ?hQ202 (Or.inl ⟨?hw202, ?hy202⟩) (by assumption) ?rest202
        case hi202 => (simp only [gA, gB, gC]; rfl)
        case hQ202 => exact fun _ _ _ h => h
        case hw202 => rfl
        case hy202 => (intro w hSw; (try dsimp only at hSw); go_simp; try with_reducible rfl)
        (try simp only [Act.put, sA, sB, sC])
        refine wpAnyH_take (i := 3) (oi := ?oi203) (v := ?v203) ?hi203 (by kernel_rfl) (by kernel_rfl) (by kernel_rfl) ?hQ203 (Or.inl ⟨?hw203, ?hy203⟩) (by assumption) ?rest203
        case hi203 => (simp only [gA, gB, gC]; rfl)
        case hQ203 => exact fun _ _ _ h => h
        case hw203 => rfl
        case hy203 => (intro w hSw; (try dsimp only at hSw); go_simp; try with_reducible rfl)
        (try simp only [Act.put, sA, sB, sC])
        refine wpAnyH_take (i := 4) (oi := ?oi204) (v := ?v204) ?hi204 (by kernel_rfl) (by kernel_rfl) (by kernel_rfl) ?hQ204 (Or.inl ⟨?hw204, ?hy204⟩) (by assumption) ?rest204
        case hi204 => (simp only [gA, gB, gC]; rfl)
        case hQ204 => exact fun _ _ _ h => h
        case hw204 => rfl
        case hy204 => (intro w hSw; (try dsimp only at hSw); go_simp; try with_reducible rfl)
        (try simp only [Act.put, sA, sB, sC])
        refine wpAnyH_take (i := 5) (oi := ?oi205) (v := ?v205) ?hi205 (by kernel_rfl) (by kernel_rfl) (by kernel_rfl) ?hQ205 (Or.inl ⟨?hw205, ?hy205⟩) (by assumption) ?rest205
        case hi205 => (simp only [gA, gB, gC]; rfl)
        case hQ205 => exact fun _ _ _ h => h
        case hw205 => rfl
        case hy205 => (intro w hSw; (try dsimp only at hSw); go_simp; try with_reducible rfl)
        (try simp only [Act.put, sA, sB, sC])
        refine wpAnyH_take (i := 6) (oi := ?oi206) (v := ?v206) ?hi206 (by kernel_rfl) (by kernel_rfl) (by kernel_rfl) ?hQ206 (Or.inl ⟨?hw206, ?hy206⟩) (by assumption) ?rest206
        case hi206 => (simp only [gA, gB, gC]; rfl)
        case hQ206 => exact fun _ _ _ h => h
        case hw206 => rfl
        case hy206 => (intro w hSw; (try dsimp only at hSw); go_simp; try with_reducible rfl)
        (try simp only [Act.put, sA, sB, sC])
        refine wpAnyH_take (i := 7) (oi := ?oi207) (v := ?v207) ?hi207 (by kernel_rfl) (by kernel_rfl) (by kernel_rfl) ?hQ207 (Or.inl ⟨?hw207, ?hy207⟩) (by assumption) ?rest207
        case hi207 => (simp only [gA, gB, gC]; rfl)
        case hQ207 => exact fun _ _ _ h => h
        case hw207 => rfl
        case hy207 => (intro w hSw; (try dsimp only at hSw); go_simp; try with_reducible rfl)
        (try simp only [Act.put, sA, sB, sC])
        refine wpAnyH_ready (rs := [8]) (by kernel_rfl) (by simp) ?_
        refine AllReadyH.cons (o := ?o208) ?ho208 (fun K hK => ?st208) AllReadyH.nil
        case ho208 => (simp only [gA, gB, gC]; rfl)
        go_simp
        refine (H1.out _ hHeld.1.1).mono ?_; rintro e w2 ⟨rfl, hb2⟩
        exact ⟨rfl, (if_neg HZ1.out).symm, ((HTB.out.below (Below.refl _ _).drew).below hb2).1⟩
  · have h0 := fun W hb => (H0.out W hb).mono (fun e w' h => (⟨h.1.trans (if_neg hz), h.2⟩ : e = .panicked (PV r2) ∧ Below W.heap.size W w'))
    clear H0
    have H0 := Lib.hid h0
    have HZ := Lib.hid hz
    rw [if_pos hz]
    clear h0 hv0 hz
    have htb : TB w FA fn FC VA vn VC op (some ad) n c nm v (((w.alloc (.cells #[.slice FA fn FC, .slice VA vn VC] 248)).alloc (.cells #[.int .i64 op, .slice (some ad) n c, .string nm, .int .i64 v.k, .int .i64 v.i, .bool v.b, .string v.s, .float .f64 v.n] 75)).alloc (.cells #[.int .i64 0, .int .i64 0, .bool false, .string { data := #[] }, .float .f64 0] 55)) := TB_new w FA fn FC VA vn VC op (some ad) n c nm v
    have HHELD := Lib.hid (fun W (hb : TB w FA fn FC VA vn VC op (some ad) n c nm v W) => (show THeld w FA fn FC VA vn VC ad n c p0 A0 n0 c0 m0 y0 W from let q := hq0 W hb.1; ⟨hb.2.2.1, hb.2.2.2.1, hb.2.2.2.2.1.2.1, q.1, q.2.1, q.2.2.1, q.2.2.2.1, q.2.2.2.2.1, q.2.2.2.2.2.1, q.2.2.2.2.2.2.1, q.2.2.2.2.2.2.2⟩))
    clear hq0
    have HKP := Lib.hid (fun (W W' : World) (h : TB w FA fn FC VA vn VC op (some ad) n c nm v W ∧ THeld w FA fn FC VA vn VC ad n c p0 A0 n0 c0 m0 y0 W) (hb : Below W.heap.size W W') => And.intro (h.1.below hb) (HHELD.out _ (h.1.below hb)))
    have HKS := Lib.hid (fun (W : World) (b : Nat) (u0 u1 u2 u3 u4 : Value) (hge : w.heap.size + 3 ≤ b) (h : TB w FA fn FC VA vn VC op (some ad) n c nm v W ∧ THeld w FA fn FC VA vn VC ad n c p0 A0 n0 c0 m0 y0 W) => let hb := below_set5 (Below.refl (w.heap.size + 3) W) hge u0 u1 u2 u3 u4; And.intro (h.1.below3 hb) (HHELD.out _ (h.1.below3 hb)))
    go_enter Tryz.func257, Tryz.ntmps257
    go_upto_region 6 with fail
    generalize ((w.alloc (.cells #[.slice FA fn FC, .slice VA vn VC] 248)).alloc (.cells #[.int .i64 op, .slice (some ad) n c, .string nm, .int .i64 v.k, .int .i64 v.i, .bool v.b, .string v.s, .float .f64 v.n] 75)).alloc (.cells #[.int .i64 0, .int .i64 0, .bool false, .string { data := #[] }, .float .f64 0] 55) = wb at *
    have hS0 : TB w FA fn FC VA vn VC op (some ad) n c nm v wb.drew ∧ THeld w FA fn FC VA vn VC ad n c p0 A0 n0 c0 m0 y0 wb.drew := ⟨htb.below (Below.refl _ _).drew, HHELD.out _ (htb.below (Below.refl _ _).drew)⟩
    refine wp_region_held_drew (S := (fun W => TB w FA fn FC VA vn VC op (some ad) n c nm v W ∧ THeld w FA fn FC VA vn VC ad n c p0 A0 n0 c0 m0 y0 W)) (by kernel_rfl) (hS0) (fun hHeld => ?_)
    refine wpAnyH_take (i := 0) (oi := ?oi263) (v := ?v263) ?hi263 (by kernel_rfl) (by kernel_rfl) (by kernel_rfl) ?hQ263 (Or.inl ⟨?hw263, ?hy263⟩) (by assumption) ?rest263
    case hi263 => (simp only [gA, gB, gC]; rfl)
    case hQ263 => exact fun _ _ _ h => h
    case hw263 => rfl
    case hy263 => (intro w hSw; (try dsimp only at hSw); go_simp; try with_reducible rfl)
    (try simp only [Act.put, sA, sB, sC])
    refine wpAnyH_take (i := 1) (oi := ?oi264) (v := ?v264) ?hi264 (by kernel_rfl) (by kernel_rfl) (by kernel_rfl) ?hQ264 (Or.inl ⟨?hw264, ?hy264⟩) (by assumption) ?rest264
    case hi264 => (simp only [gA, gB, gC]; rfl)
    case hQ264 => exact fun _ _ _ h => h
    case hw264 => rfl
    case hy264 => (intro w hSw; (try dsimp only at hSw); go_simp; try with_reducible rfl)
    (try simp only [Act.put, sA, sB, sC])
    refine wpAnyH_take (i := 2) (oi := ?oi265) (v := ?v265) ?hi265 (by kernel_rfl) (by kernel_rfl) (by kernel_rfl) ?hQ265 (Or.inl ⟨?hw265, ?hy265⟩) (by assumption) ?rest265
    case hi265 => (simp only [gA, gB, gC]; rfl)
    case hQ265 => exact fun _ _ _ h => h
    case hw265 => rfl
    case hy265 => (intro w hSw; (try dsimp only at hSw); go_simp; try with_reducible rfl)
    (try simp only [Act.put, sA, sB, sC])
    refine wpAnyH_take (i := 3) (oi := ?oi266) (v := ?v266) ?hi266 (by kernel_rfl) (by kernel_rfl) (by kernel_rfl) ?hQ266 (Or.inl ⟨?hw266, ?hy266⟩) (by assumption) ?rest266
    case hi266 => (simp only [gA, gB, gC]; rfl)
    case hQ266 => exact fun _ _ _ h => h
    case hw266 => rfl
    case hy266 => (intro w hSw; (try dsimp only at hSw); go_simp; try with_reducible rfl)
    (try simp only [Act.put, sA, sB, sC])
    refine wpAnyH_take (i := 4) (oi := ?oi267) (v := ?v267) ?hi267 (by kernel_rfl) (by kernel_rfl) (by kernel_rfl) ?hQ267 (Or.inl ⟨?hw267, ?hy267⟩) (by assumption) ?rest267
    case hi267 => (simp only [gA, gB, gC]; rfl)
    case hQ267 => exact fun _ _ _ h => h
    case hw267 => rfl
    case hy267 => (intro w hSw; (try dsimp only at hSw); go_simp; try with_reducible rfl)
    (try simp only [Act.put, sA, sB, sC])
    refine wpAnyH_ready (rs := [5, 6]) (by kernel_rfl) (by simp) ?_
    refine AllReadyH.cons (o := ?o268) ?ho268 (fun K hK => ?st268) (AllReadyH.cons (o := ?o269) ?ho269 (fun K hK => ?st269) AllReadyH.nil)
    case ho268 => (simp only [gA, gB, gC]; rfl)
    case ho269 => (simp only [gA, gB, gC]; rfl)
    · go_simp
      refine (H0.out _ (And.left (And.left hHeld))).mono ?_; rintro e wA ⟨rfl, hbA⟩
      exact ⟨rfl, (if_neg HZ.out).symm, (And.left (And.left hHeld)).trans (hbA.mono (And.left (And.left hHeld)).size)⟩
    · go_simp
      refine hK.out _ _ ?_ (fun hHeld => ?_)
      · (try dsimp only); exact HKP.out _ _ hS0 (alloc1 _ _)
      clear hK K
      (try simp only [Act.put, sA, sB, sC])
      refine wpAnyH_ready (rs := [5]) (by kernel_rfl) (by simp) ?_
      refine AllReadyH.cons (o := ?o270) ?ho270 (fun K hK => ?st270) AllReadyH.nil
      case ho270 => (simp only [gA, gB, gC]; rfl)
      go_simp
      refine (H0.out _ (And.left (And.left hHeld))).mono ?_; rintro e wA ⟨rfl, hbA⟩
      exact ⟨rfl, (if_neg HZ.out).symm, (And.left (And.left hHeld)).trans (hbA.mono (And.left (And.left hHeld)).size)⟩
end Go.Proofs.YtkahhoefbphllaaGreat

/- Layer 5: what a constant, a field tells, by the program. (Made by gen/gentell5.py.) -/
namespace Go.Proofs.YtkahhoefbphllaaGreat
open Go.RowKit
set_option linter.unusedVariables false
set_option linter.unusedSimpArgs false
set_option maxRecDepth 20000

set_option maxHeartbeats 600000 in
theorem tell_1 (FA : Option Addr) (fn FC : Nat) (VA : Option Addr) (vn VC : Nat) (A : Option Addr) (n c : Nat) (nm : ByteArray) (v : Vl) (w : World) :
    Calls Tryz.prog 257 #[agR FA fn FC VA vn VC, agX 1 A n c nm v] w (TellP (v, 0) w) := by
  have hsf := fun (w : World) (a : Addr) (m : Mode) (b : Nat) => run_store Tryz.prog w a (.float .f64 b) m rfl
  go_enter Tryz.func257, Tryz.ntmps257
  go_wp2
  exact bodyPost_ret (v := agV v) (by simp [results, Tryz.results257, go_sem]) rfl ⟨rfl, vbox3 w _ _ _⟩
set_option maxHeartbeats 600000 in
theorem tell_2 (FA : Option Addr) (fn FC : Nat) (vad : Addr) (vn VC : Nat) (A : Option Addr) (n c : Nat) (nm : ByteArray) (v y : Vl) (w : World) (j : Nat) (q : Addr) (hqd : vad.add (j * 5) = q) (hj : j < vn)
    (hp : ∀ W, Below w.heap.size w W → Calls Tryz.prog 268 #[.string nm, .slice FA fn FC] W (VMk (.int .i64 (j : Int)) W)) (hv : ∀ W, Below w.heap.size w W → Vlp W q y) :
    Calls Tryz.prog 257 #[agR FA fn FC (some vad) vn VC, agX 2 A n c nm v] w (TellP (y, 0) w) := by
  have hsf := fun (w : World) (a : Addr) (m : Mode) (b : Nat) => run_store Tryz.prog w a (.float .f64 b) m rfl
  have hi : (0 : Int) ≤ (j : Int) ∧ (j : Int) < (vn : Int) := by omega
  have hj2 : (j : Int) < (vn : Int) := by omega
  have HP := Lib.hid hp
  obtain ⟨VA, hVA⟩ : ∃ VA : Option Addr, VA = some vad := ⟨_, rfl⟩
  have htb : TB w FA fn FC (some vad) vn VC 2 A n c nm v (((w.alloc (.cells #[.slice FA fn FC, .slice (some vad) vn VC] 248)).alloc (.cells #[.int .i64 2, .slice A n c, .string nm, .int .i64 v.k, .int .i64 v.i, .bool v.b, .string v.s, .float .f64 v.n] 75)).alloc (.cells #[.int .i64 0, .int .i64 0, .bool false, .string { data := #[] }, .float .f64 0] 55)) := TB_new w FA fn FC (some vad) vn VC 2 A n c nm v
  clear hVA VA
  have HT := Lib.hid (fun W (hb : TC w FA fn FC (some vad) vn VC 2 A n c nm v W) => (show (TC w FA fn FC (some vad) vn VC 2 A n c nm v W ∧ W.cell? ⟨w.heap.size, 0, none⟩ = some (.slice FA fn FC) ∧ W.cell? ⟨w.heap.size, 1, none⟩ = some (.slice (some vad) vn VC) ∧ W.cell? ⟨w.heap.size + 1, 2, none⟩ = some (.string nm) ∧ W.cell? q = some (.int .i64 y.k) ∧ W.cell? ⟨q.block, q.off + 1, none⟩ = some (.int .i64 y.i) ∧ W.cell? ⟨q.block, q.off + 2, none⟩ = some (.bool y.b) ∧ W.cell? ⟨q.block, q.off + 3, none⟩ = some (.string y.s) ∧ W.cell? ⟨q.block, q.off + 4, none⟩ = some (.float .f64 y.n)) from ⟨hb, hb.2.2.1, hb.2.2.2.1, hb.2.2.2.2.2.2.1, hv W hb.1⟩))
  clear hp hv
  go_enter Tryz.func257, Tryz.ntmps257
  go_upto_region 5 with fail
  generalize ((w.alloc (.cells #[.slice FA fn FC, .slice (some vad) vn VC] 248)).alloc (.cells #[.int .i64 2, .slice A n c, .string nm, .int .i64 v.k, .int .i64 v.i, .bool v.b, .string v.s, .float .f64 v.n] 75)).alloc (.cells #[.int .i64 0, .int .i64 0, .bool false, .string { data := #[] }, .float .f64 0] 55) = wb at *
  have HTB := Lib.hid htb
  have hS1 : (fun W => TC w FA fn FC (some vad) vn VC 2 A n c nm v W ∧ W.cell? ⟨w.heap.size, 0, none⟩ = some (.slice FA fn FC) ∧ W.cell? ⟨w.heap.size, 1, none⟩ = some (.slice (some vad) vn VC) ∧ W.cell? ⟨w.heap.size + 1, 2, none⟩ = some (.string nm) ∧ W.cell? q = some (.int .i64 y.k) ∧ W.cell? ⟨q.block, q.off + 1, none⟩ = some (.int .i64 y.i) ∧ W.cell? ⟨q.block, q.off + 2, none⟩ = some (.bool y.b) ∧ W.cell? ⟨q.block, q.off + 3, none⟩ = some (.string y.s) ∧ W.cell? ⟨q.block, q.off + 4, none⟩ = some (.float .f64 y.n)) wb.drew := HT.out _ (htb.tc.below2 (Below.refl _ _).drew)
  clear htb
  refine wp_region_held_drew (S := (fun W => TC w FA fn FC (some vad) vn VC 2 A n c nm v W ∧ W.cell? ⟨w.heap.size, 0, none⟩ = some (.slice FA fn FC) ∧ W.cell? ⟨w.heap.size, 1, none⟩ = some (.slice (some vad) vn VC) ∧ W.cell? ⟨w.heap.size + 1, 2, none⟩ = some (.string nm) ∧ W.cell? q = some (.int .i64 y.k) ∧ W.cell? ⟨q.block, q.off + 1, none⟩ = some (.int .i64 y.i) ∧ W.cell? ⟨q.block, q.off + 2, none⟩ = some (.bool y.b) ∧ W.cell? ⟨q.block, q.off + 3, none⟩ = some (.string y.s) ∧ W.cell? ⟨q.block, q.off + 4, none⟩ = some (.float .f64 y.n))) (by kernel_rfl) (hS1) (fun hHeld => ?_)
  refine wpAnyH_take (i := 0) (oi := ?oi1) (v := ?v1) ?hi1 (by kernel_rfl) (by kernel_rfl) (by kernel_rfl) ?hQ1 (Or.inl ⟨?hw1, ?hy1⟩) (by assumption) ?rest1
  case hi1 => (simp only [gA, gB, gC]; rfl)
  case hQ1 => exact fun _ _ _ h => h
  case hw1 => rfl
  case hy1 => (intro w hSw; (try dsimp only at hSw); go_simp; try with_reducible rfl)
  (try simp only [Act.put, sA, sB, sC])
  refine wpAnyH_take (i := 1) (oi := ?oi2) (v := ?v2) ?hi2 (by kernel_rfl) (by kernel_rfl) (by kernel_rfl) ?hQ2 (Or.inl ⟨?hw2, ?hy2⟩) (by assumption) ?rest2
  case hi2 => (simp only [gA, gB, gC]; rfl)
  case hQ2 => exact fun _ _ _ h => h
  case hw2 => rfl
  case hy2 => (intro w hSw; (try dsimp only at hSw); go_simp; try with_reducible rfl)
  (try simp only [Act.put, sA, sB, sC])
  refine wpAnyH_take (i := 2) (oi := ?oi3) (v := ?v3) ?hi3 (by kernel_rfl) (by kernel_rfl) (by kernel_rfl) ?hQ3 (Or.inl ⟨?hw3, ?hy3⟩) (by assumption) ?rest3
  case hi3 => (simp only [gA, gB, gC]; rfl)
  case hQ3 => exact fun _ _ _ h => h
  case hw3 => rfl
  case hy3 => (intro w hSw; (try dsimp only at hSw); go_simp; try with_reducible rfl)
  (try simp only [Act.put, sA, sB, sC])
  refine wpAnyH_take (i := 3) (oi := ?oi4) (v := ?v4) ?hi4 (by kernel_rfl) (by kernel_rfl) (by kernel_rfl) ?hQ4 (Or.inl ⟨?hw4, ?hy4⟩) (by assumption) ?rest4
  case hi4 => (simp only [gA, gB, gC]; rfl)
  case hQ4 => exact fun _ _ _ h => h
  case hw4 => rfl
  case hy4 => (intro w hSw; (try dsimp only at hSw); go_simp; try with_reducible rfl)
  (try simp only [Act.put, sA, sB, sC])
  refine wpAnyH_take (i := 4) (oi := ?oi5) (v := ?v5) ?hi5 (by kernel_rfl) (by kernel_rfl) (by kernel_rfl) ?hQ5 (Or.inl ⟨?hw5, ?hy5⟩) (by assumption) ?rest5
  case hi5 => (simp only [gA, gB, gC]; rfl)
  case hQ5 => exact fun _ _ _ h => h
  case hw5 => rfl
  case hy5 => (intro w hSw; (try dsimp only at hSw); go_simp; try with_reducible rfl)
  (try simp only [Act.put, sA, sB, sC])
  refine wpAnyH_take (i := 5) (oi := ?oi6) (v := ?v6) ?hi6 (by kernel_rfl) (by kernel_rfl) (by kernel_rfl) ?hQ6 (Or.inl ⟨?hw6, ?hy6⟩) (by assumption) ?rest6
  case hi6 => (simp only [gA, gB, gC]; rfl)
  case hQ6 => exact fun _ _ _ h => h
  case hw6 => rfl
  case hy6 => (intro w hSw; (try dsimp only at hSw); go_simp; try with_reducible rfl)
  (try simp only [Act.put, sA, sB, sC])
  refine wpAnyH_ready (rs := [6]) (by kernel_rfl) (by simp) ?_
  refine AllReadyH.cons (o := ?o7) ?ho7 (fun K hK => ?st7) AllReadyH.nil
  case ho7 => (simp only [gA, gB, gC]; rfl)
  go_simp
  refine (HP.out _ hHeld.1.1).mono ?_; rintro e w2 ⟨rfl, hb2⟩; obtain ⟨ou0, ou1, ou2, ou3, ou4, ov0, ov1, ov2, ov3, ov4, ovf⟩ := TB.out ((HTB.out.below (Below.refl _ _).drew).below hb2)
  refine hK.out _ _ ?_ (fun hHeld => ?_)
  · (try dsimp only); exact HT.out _ (hHeld.1.below2 (hb2.mono hHeld.1.2.1))
  clear hK K
  (try simp only [Act.put, sA, sB, sC])
  refine wpAnyH_take (i := 7) (oi := ?oi10) (v := ?v10) ?hi10 (by kernel_rfl) (by kernel_rfl) (by kernel_rfl) ?hQ10 (Or.inl ⟨?hw10, ?hy10⟩) (by assumption) ?rest10
  case hi10 => (simp only [gA, gB, gC]; rfl)
  case hQ10 => exact fun _ _ _ h => h
  case hw10 => rfl
  case hy10 => (intro w hSw; (try dsimp only at hSw); go_simp; try with_reducible rfl)
  (try simp only [Act.put, sA, sB, sC])
  refine wpAnyH_take (i := 8) (oi := ?oi8) (v := ?v8) ?hi8 (by kernel_rfl) (by kernel_rfl) (by kernel_rfl) ?hQ8 (Or.inl ⟨?hw8, ?hy8⟩) (by assumption) ?rest8
  case hi8 => (simp only [gA, gB, gC]; rfl)
  case hQ8 => exact fun _ _ _ h => h
  case hw8 => rfl
  case hy8 => (intro w hSw; (try dsimp only at hSw); go_simp; try with_reducible rfl)
  (try simp only [Act.put, sA, sB, sC])
  refine wpAnyH_ready (rs := [9]) (by kernel_rfl) (by simp) ?_
  refine AllReadyH.cons (o := ?o9) ?ho9 (fun K hK => ?st9) AllReadyH.nil
  case ho9 => (simp only [gA, gB, gC]; rfl)
  go_simp
  refine hK.out _ _ ?_ (fun hHeld => ?_)
  · (try dsimp only); exact HT.out _ (hHeld.1.below2 (below_set5 (Below.refl _ _) (by omega) _ _ _ _ _))
  clear hK K
  (try simp only [Act.put, sA, sB, sC])
  refine wpAnyH_done (by kernel_rfl) ?_ _
  go_wp2_with fail
  exact bodyPost_ret (v := agV y) (by simp [results, Tryz.results257, go_sem, ov0, ov1, ov2, ov3, ov4]) rfl ⟨rfl, TB.done ((HTB.out.below (Below.refl _ _).drew).below hb2) _ _ _ _ _⟩
end Go.Proofs.YtkahhoefbphllaaGreat
