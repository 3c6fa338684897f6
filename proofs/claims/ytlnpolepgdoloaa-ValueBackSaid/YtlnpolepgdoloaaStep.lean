/- Package wire: a step of the reader. -/
import Derived.Test.YtlnpolepgdoloaaRead
namespace Go.Proofs.Ytlnpolepgdoloaa
open Go.RowKit
set_option linter.unusedVariables false

/-- all blocks but g are as they were; new ones may be there -/
abbrev Only (g : Nat) (w w' : World) : Prop := w.grownBy w' (some g)
theorem Only.refl (g : Nat) (w : World) : Only g w w := World.grownBy.refl w _
theorem Only.below {g : Nat} {a w w' : World} (h : Only g a w) (hb : Below w.heap.size w w') : Only g a w' :=
  h.trans ⟨hb.os, hb.tape, hb.output, hb.size, fun k hk _ => hb.block k hk⟩
theorem Only.set {g : Nat} {a w : World} (h : Only g a w) (j : Nat) (u : Value) : Only g a (w.setCell ⟨g, j, none⟩ u) :=
  h.trans ⟨rfl, rfl, rfl, by simp [World.setCell], fun k _ hk => Below.heap_setCell w _ u k (by intro e; apply hk; rw [e])⟩
theorem Only.to_below {g B : Nat} {w w' : World} (h : Only g w w') (hB : B ≤ w.heap.size) (hg : B ≤ g) : Below B w w' :=
  ⟨h.os, h.tape, h.output, h.size, fun k hk => h.block k (by omega) (by intro e; injection e with e; omega)⟩

/-- a row of bytes does not lie in a block that holds no byte -/
theorem Bs.set {w : World} {g : Nat} {v : Value} {l : List UInt8} {cs : Array Value} {t : TypeId} (h : Bs w v l) (hg : w.heap[g]? = some (.cells cs t (0, 0))) (hy : ∀ (j : Nat) (b : UInt8), cs[j]? ≠ some (bc b)) (j : Nat) (u : Value) : Bs (w.setCell ⟨g, j, none⟩ u) v l := by
  obtain ⟨A, c, hv, hc, hm, hn, hx⟩ := h
  refine ⟨A, c, hv, hc, hm, hn, fun he => ?_⟩
  obtain ⟨ad, ha, hl, hr⟩ := hx he
  refine ⟨ad, ha, by simpa [World.setCell] using hl, fun k y hk => ?_⟩
  have h0 := hr k y hk
  have hne : (ad.add k).block ≠ g := by
    intro e
    simp only [World.cell?, e, hg] at h0
    obtain ⟨b, -, rfl⟩ := List.mem_map.1 (List.mem_of_getElem? hk)
    split at h0
    · cases h0
    · exact hy _ b h0
  exact (World.cell?_of_block (w := w) (Below.heap_setCell w _ u _ hne)).trans h0

theorem no_bytes (A : Option Addr) (n c : Nat) (e : Int) (j : Nat) (b : UInt8) : #[Value.slice A n c, Value.int .i64 e][j]? ≠ some (bc b) := by
  match j with
  | 0 => simp [bc]
  | 1 => simp [bc]
  | j + 2 => simp

theorem Bt.set {w : World} {g : Nat} {v : Value} {l : List UInt8} {cs : Array Value} {t : TypeId} (h : Bt w v l) (hg : w.heap[g]? = some (.cells cs t (0, 0))) (ht : t ≠ 5) (hy : ∀ (j : Nat) (b : UInt8), cs[j]? ≠ some (bc b)) (j : Nat) (u : Value) : Bt (w.setCell ⟨g, j, none⟩ u) v l := by
  refine ⟨h.1.set hg hy j u, fun hne k hk => ?_⟩
  obtain ⟨cs', fr, hg'⟩ := h.2 hne k hk
  have hkg : k ≠ g := by
    rintro rfl
    rw [hg] at hg'
    injection hg' with hg'
    injection hg' with _ h2
    exact ht h2
  exact ⟨cs', fr, (Below.heap_setCell w _ u _ hkg).trans hg'⟩
theorem RdR.setErr {w : World} {g : Nat} {rest : List UInt8} {err : Int} (h : RdR w g rest err) (e : Int) : RdR (w.setCell ⟨g, 1, none⟩ (.int .i64 e)) g rest e := by
  obtain ⟨rv, hh, hb⟩ := h
  obtain ⟨A, c, rfl, -⟩ := hb.1.open
  refine ⟨_, ?_, hb.set hh (by decide) (no_bytes _ _ _ _) _ _⟩
  simp [World.setCell, Array.getElem?_modify, hh]
theorem RdR.setRest {w : World} {g : Nat} {rest r2 : List UInt8} {err : Int} (h : RdR w g rest err) (v : Value) (hv : Bt w v r2) : RdR (w.setCell ⟨g, 0, none⟩ v) g r2 err := by
  obtain ⟨rv, hh, hb⟩ := h
  obtain ⟨A, c, rfl, -⟩ := hb.1.open
  refine ⟨v, ?_, hv.set hh (by decide) (no_bytes _ _ _ _) _ _⟩
  simp [World.setCell, Array.getElem?_modify, hh]
theorem RdR.setBoth {w : World} {g : Nat} {rest r2 : List UInt8} {err : Int} (h : RdR w g rest err) (e : Int) (v : Value) (hv : Bt w v r2) : RdR ((w.setCell ⟨g, 1, none⟩ (.int .i64 e)).setCell ⟨g, 0, none⟩ v) g r2 e := by
  refine (h.setErr e).setRest v ?_
  obtain ⟨rv, hh, hb⟩ := h
  obtain ⟨A, c, rfl, -⟩ := hb.1.open
  exact hv.set hh (by decide) (no_bytes _ _ _ _) _ _
theorem RdR.lt {w : World} {g : Nat} {rest : List UInt8} {err : Int} (h : RdR w g rest err) : g < w.heap.size := by
  obtain ⟨rv, hh, hb⟩ := h
  exact (Array.getElem?_eq_some_iff.1 hh).1
theorem RdR.below {w w' : World} {g : Nat} {rest : List UInt8} {err : Int} (h : RdR w g rest err) (hb : Below w.heap.size w w') : RdR w' g rest err := by
  have hl := h.lt
  obtain ⟨rv, hh, hv⟩ := h
  exact ⟨rv, (hb.block g hl).trans hh, hv.below hb (Nat.le_refl _)⟩
/-- what the walk reads of a reader -/
theorem RdR.open {w : World} {g : Nat} {rest : List UInt8} {err : Int} (h : RdR w g rest err) : ∃ A c, Bt w (.slice A rest.length c) rest ∧ rest.length ≤ c ∧ c ≤ maxLen ∧ (rest ≠ [] → ∃ ad, A = some ad) ∧
    w.cell? ⟨g, 0, none⟩ = some (.slice A rest.length c) ∧ w.cell? ⟨g, 1, none⟩ = some (.int .i64 err) ∧ (∀ j, w.frozen? ⟨g, j, none⟩ = false) ∧ g < w.heap.size := by
  have hl := h.lt
  obtain ⟨rv, hh, hb⟩ := h
  obtain ⟨A, c, rfl, hc, hm, -, hx⟩ := hb.1.open
  exact ⟨A, c, hb, hc, hm, fun hne => let ⟨ad, e, _⟩ := hx hne; ⟨ad, e⟩, (cell_of_row w g 0 _ _ (0, 0) hh).trans rfl, (cell_of_row w g 1 _ _ (0, 0) hh).trans rfl, fun j => by simp [World.frozen?, hh], hl⟩

theorem Bs.take {w : World} {A : Option Addr} {l : List UInt8} {n c k : Nat} (h : Bs w (.slice A n c) l) (hk : k ≤ l.length) : Bs w (.slice A k c) (l.take k) := by
  obtain ⟨A', c', e, hc, hm, hn, hx⟩ := h
  injection e with e1 e2 e3
  subst e1 e2 e3
  simp only [List.length_map] at hc
  refine ⟨A, c, by simp [Nat.min_eq_left hk], by simp; omega, hm, hn, fun hne => ?_⟩
  obtain ⟨ad, ha, hl, hr⟩ := hx (by rintro h0; apply hne; simp at h0; simp [h0])
  refine ⟨ad, ha, hl, fun j u hj => hr j u ?_⟩
  rw [List.map_take, List.getElem?_take] at hj
  split at hj
  · exact hj
  · cases hj
theorem Bs.drop {w : World} {ad : Addr} {l : List UInt8} {n c k : Nat} (h : Bs w (.slice (some ad) n c) l) (hk : k ≤ l.length) : Bs w (.slice (some (if c = k then ad else ad.add k)) (n - k) (c - k)) (l.drop k) := by
  obtain ⟨A', c', e, hc, hm, hn, hx⟩ := h
  injection e with e1 e2 e3
  subst e1 e2 e3
  simp only [List.length_map] at hc
  refine ⟨some (if c = k then ad else ad.add k), c - k, by simp, by simp; omega, by omega, (by intro h0; cases h0), fun hne => ?_⟩
  have hlt : k < l.length := by
    rcases Nat.lt_or_ge k l.length with h1 | h1
    · exact h1
    · exact absurd (by rw [List.drop_of_length_le h1]; rfl) hne
  obtain ⟨ad', ha, hl, hr⟩ := hx (by rintro h0; simp at h0; simp [h0] at hlt)
  injection ha with ha
  subst ha
  rw [if_neg (by omega)]
  refine ⟨_, rfl, by rw [block_add]; exact hl, fun j u hj => ?_⟩
  rw [add_add']
  refine hr _ u ?_
  rw [List.map_drop, List.getElem?_drop] at hj
  exact hj

theorem Bt.drop {w : World} {ad : Addr} {l : List UInt8} {n c k : Nat} (h : Bt w (.slice (some ad) n c) l) (hk : k ≤ l.length) : Bt w (.slice (some (if c = k then ad else ad.add k)) (n - k) (c - k)) (l.drop k) := by
  refine ⟨h.1.drop hk, fun hne j hj => ?_⟩
  refine h.2 (by rintro rfl; simp at hne) j ?_
  have e : (if c = k then ad else ad.add k).block = ad.block := by split; rfl; exact block_add _ _
  simp only [Value.ownBlock, e] at hj
  exact hj

/-- what a step does: the word, what is left, the error -/
def stepF (size : Nat) (al : Int → Int) (rest : List UInt8) (err : Int) : Nat × List UInt8 × Int :=
  if err ≠ 0 then (0, rest, err) else if rest.length < size then (0, rest, 10)
  else if al (wordN (rest.take size)) ≠ 0 then (0, rest, al (wordN (rest.take size))) else (wordN (rest.take size), rest.drop size, 0)

def Steps (g size : Nat) (al : Int → Int) (rest : List UInt8) (err : Int) (w : World) (e : Ending) (w' : World) : Prop :=
  e = .returned (.int .u64 (stepF size al rest err).1) ∧ RdR w' g (stepF size al rest err).2.1 (stepF size al rest err).2.2 ∧ Only g w w'

set_option maxHeartbeats 400000 in
theorem step_err (g : Nat) (rest : List UInt8) (err : Int) (size : Nat) (al : Int → Int) (fv : Value) (w : World) (hr : RdR w g rest err) (he : err ≠ 0) :
    Calls Try.prog 105 #[.pointer (some ⟨g, 0, none⟩), .int .i64 size, fv] w (Steps g size al rest err w) := by
  obtain ⟨A, c, -, -, -, -, hc0, hc1, hf, hgl⟩ := hr.open
  have h1 : (err != 0) = true := by simpa using he
  have hs : stepF size al rest err = (0, rest, err) := by unfold stepF; rw [if_pos he]
  have HS := Lib.hid hs
  have HR := Lib.hid hr
  clear hs hr he
  go_enter Try.func105, Try.ntmps105
  go_wp2
  go_ret
  exact ⟨by rw [HS.out]; rfl, by rw [HS.out]; exact HR.out, Only.refl _ _⟩

set_option maxHeartbeats 400000 in
theorem step_nil (size : Int) (fv : Value) (w : World) :
    Calls Try.prog 105 #[.pointer none, .int .i64 size, fv] w fun e w' => e = .returned (.int .u64 0) ∧ w = w' := by
  go_enter Try.func105, Try.ntmps105
  go_wp2
  go_ret
  exact ⟨rfl, rfl⟩

set_option maxHeartbeats 400000 in
theorem step_short (g : Nat) (rest : List UInt8) (size : Nat) (al : Int → Int) (fv : Value) (w : World) (hr : RdR w g rest 0) (hlt : rest.length < size) :
    Calls Try.prog 105 #[.pointer (some ⟨g, 0, none⟩), .int .i64 size, fv] w (Steps g size al rest 0 w) := by
  obtain ⟨A, c, -, -, -, -, hc0, hc1, hf, hgl⟩ := hr.open
  have hs : stepF size al rest 0 = (0, rest, 10) := by unfold stepF; rw [if_neg (by simp), if_pos hlt]
  have HS := Lib.hid hs
  have HR := Lib.hid hr
  clear hs hr
  go_enter Try.func105, Try.ntmps105
  go_wp2
  go_ret
  exact ⟨by rw [HS.out]; rfl, by rw [HS.out]; exact HR.out.setErr 10, (Only.refl _ _).set _ _⟩

set_option maxHeartbeats 400000 in
theorem step_ceil_good (g : Nat) (rest : List UInt8) (size : Nat) (y0 past : Int) (w : World) (hr : RdR w g rest 0) (h8 : size ≤ 8) (h1 : 1 ≤ size) (hs : size ≤ rest.length) :
    Calls Try.prog 105 #[.pointer (some ⟨g, 0, none⟩), .int .i64 size, .func (.func 106) #[.agg #[.int .u64 y0, .int .i64 past]] #[]] w (Steps g size (ceilE y0 past) rest 0 w) := by
  obtain ⟨A, c, hb, hc, hm, hx, hc0, hc1, hf, hgl⟩ := hr.open
  obtain ⟨ad, rfl⟩ := hx (by rintro rfl; simp at hs; omega)
  have hbt := hb.1.take (k := size) hs
  have hwl := wordN_lt8 (rest.take size) (by simp; omega)
  obtain ⟨x, hxe⟩ : ∃ x, x = wordN (rest.take size) := ⟨_, rfl⟩
  have HB := Lib.hid hb
  have HR := Lib.hid hr
  have HX := Lib.hid hxe
  clear hb hr hx
  rw [← hxe] at hwl
  clear hxe
  by_cases hal : ceilE y0 past x = 0
  · have hs : stepF size (ceilE y0 past) rest 0 = (x, rest.drop size, 0) := by unfold stepF; rw [if_neg (by simp), if_neg (by omega), ← HX.out, if_neg (by simpa using hal)]
    have HS := Lib.hid hs
    have hne : (ceilE y0 past x != 0) = false := by simp [hal]
    have HAL := Lib.hid hal
    clear hs hal
    go_enter Try.func105, Try.ntmps105
    go_wp2_with (first
      | (go_at_call 110; refine (word_any _ (rest.take size) _ hbt (by simp; omega)).mono ?_; rintro e w' ⟨rfl, rfl⟩; rw [← HX.out])
      | (go_at_call 106; refine (ceil_any y0 past x _).mono ?_; rintro e w1 ⟨rfl, hb1⟩; have hd0 := (hb1.cell (p := ⟨g, 0, none⟩) hgl).trans hc0; have hd1 := (hb1.cell (p := ⟨g, 1, none⟩) hgl).trans hc1; have hf1 := fun j => (hb1.frozen (p := ⟨g, j, none⟩) hgl).trans (hf j)))
    · have e : c = size := by assumption
      have hd := HB.out.drop (k := size) (by omega)
      rw [if_pos e, show c - size = 0 by omega] at hd
      go_ret
      exact ⟨by rw [HS.out]; rfl, by rw [HS.out]; have h := (HR.out.below hb1).setBoth (ceilE y0 past x) _ (hd.below hb1 (Nat.le_refl _)); rw [HAL.out] at h ⊢; exact h, (((Only.refl g w).below hb1).set _ _).set _ _⟩
    · have e : ¬c = size := by assumption
      have hd := HB.out.drop (k := size) (by omega)
      rw [if_neg e] at hd
      go_ret
      exact ⟨by rw [HS.out]; rfl, by rw [HS.out]; have h := (HR.out.below hb1).setBoth (ceilE y0 past x) _ (hd.below hb1 (Nat.le_refl _)); rw [HAL.out] at h ⊢; exact h, (((Only.refl g w).below hb1).set _ _).set _ _⟩
  · have hs : stepF size (ceilE y0 past) rest 0 = (0, rest, ceilE y0 past x) := by unfold stepF; rw [if_neg (by simp), if_neg (by omega), ← HX.out, if_pos (by simpa using hal)]; first | done | rfl
    have HS := Lib.hid hs
    have hne : (ceilE y0 past x != 0) = true := by simpa using hal
    clear hs hal
    go_enter Try.func105, Try.ntmps105
    go_wp2_with (first
      | (go_at_call 110; refine (word_any _ (rest.take size) _ hbt (by simp; omega)).mono ?_; rintro e w' ⟨rfl, rfl⟩; rw [← HX.out])
      | (go_at_call 106; refine (ceil_any y0 past x _).mono ?_; rintro e w1 ⟨rfl, hb1⟩; have hd0 := (hb1.cell (p := ⟨g, 0, none⟩) hgl).trans hc0; have hd1 := (hb1.cell (p := ⟨g, 1, none⟩) hgl).trans hc1; have hf1 := fun j => (hb1.frozen (p := ⟨g, j, none⟩) hgl).trans (hf j)))
    go_ret
    exact ⟨by rw [HS.out]; rfl, by rw [HS.out]; exact (HR.out.below hb1).setErr _, ((Only.refl g w).below hb1).set _ _⟩

theorem step_ceil (g : Nat) (rest : List UInt8) (err : Int) (size : Nat) (y0 past : Int) (w : World) (hr : RdR w g rest err) (h8 : size ≤ 8) (h1 : 1 ≤ size) :
    Calls Try.prog 105 #[.pointer (some ⟨g, 0, none⟩), .int .i64 size, .func (.func 106) #[.agg #[.int .u64 y0, .int .i64 past]] #[]] w (Steps g size (ceilE y0 past) rest err w) := by
  by_cases he : err = 0
  · subst he
    by_cases hs : rest.length < size
    · exact step_short g rest size _ _ w hr hs
    · exact step_ceil_good g rest size y0 past w hr h8 h1 (by omega)
  · exact step_err g rest err size _ _ w hr he

set_option maxHeartbeats 400000 in
theorem step_room_good (g : Nat) (rest : List UInt8) (size : Nat) (y0 past left : Int) (w : World) (hr : RdR w g rest 0) (h8 : size ≤ 8) (h1 : 1 ≤ size) (hs : size ≤ rest.length) (h4 : size ≤ 4) :
    Calls Try.prog 105 #[.pointer (some ⟨g, 0, none⟩), .int .i64 size, .func (.func 108) #[.agg #[.int .u64 y0, .int .i64 past, .int .u64 left]] #[]] w (Steps g size (roomE y0 past left) rest 0 w) := by
  obtain ⟨A, c, hb, hc, hm, hx, hc0, hc1, hf, hgl⟩ := hr.open
  obtain ⟨ad, rfl⟩ := hx (by rintro rfl; simp at hs; omega)
  have hbt := hb.1.take (k := size) hs
  have hwl := wordN_lt8 (rest.take size) (by simp; omega)
  have hw4 := wordN_lt4 (rest.take size) (by simp; omega)
  obtain ⟨x, hxe⟩ : ∃ x, x = wordN (rest.take size) := ⟨_, rfl⟩
  have HB := Lib.hid hb
  have HR := Lib.hid hr
  have HX := Lib.hid hxe
  clear hb hr hx
  rw [← hxe] at hwl hw4
  clear hxe
  by_cases hal : roomE y0 past left x = 0
  · have hs : stepF size (roomE y0 past left) rest 0 = (x, rest.drop size, 0) := by unfold stepF; rw [if_neg (by simp), if_neg (by omega), ← HX.out, if_neg (by simpa using hal)]
    have HS := Lib.hid hs
    have hne : (roomE y0 past left x != 0) = false := by simp [hal]
    have HAL := Lib.hid hal
    clear hs hal
    go_enter Try.func105, Try.ntmps105
    go_wp2_with (first
      | (go_at_call 110; refine (word_any _ (rest.take size) _ hbt (by simp; omega)).mono ?_; rintro e w' ⟨rfl, rfl⟩; rw [← HX.out])
      | (go_at_call 108; refine (room_any y0 past left x _ (by omega) (by omega)).mono ?_; rintro e w1 ⟨rfl, hb1⟩; have hd0 := (hb1.cell (p := ⟨g, 0, none⟩) hgl).trans hc0; have hd1 := (hb1.cell (p := ⟨g, 1, none⟩) hgl).trans hc1; have hf1 := fun j => (hb1.frozen (p := ⟨g, j, none⟩) hgl).trans (hf j)))
    · have e : c = size := by assumption
      have hd := HB.out.drop (k := size) (by omega)
      rw [if_pos e, show c - size = 0 by omega] at hd
      go_ret
      exact ⟨by rw [HS.out]; rfl, by rw [HS.out]; have h := (HR.out.below hb1).setBoth (roomE y0 past left x) _ (hd.below hb1 (Nat.le_refl _)); rw [HAL.out] at h ⊢; exact h, (((Only.refl g w).below hb1).set _ _).set _ _⟩
    · have e : ¬c = size := by assumption
      have hd := HB.out.drop (k := size) (by omega)
      rw [if_neg e] at hd
      go_ret
      exact ⟨by rw [HS.out]; rfl, by rw [HS.out]; have h := (HR.out.below hb1).setBoth (roomE y0 past left x) _ (hd.below hb1 (Nat.le_refl _)); rw [HAL.out] at h ⊢; exact h, (((Only.refl g w).below hb1).set _ _).set _ _⟩
  · have hs : stepF size (roomE y0 past left) rest 0 = (0, rest, roomE y0 past left x) := by unfold stepF; rw [if_neg (by simp), if_neg (by omega), ← HX.out, if_pos (by simpa using hal)]; first | done | rfl
    have HS := Lib.hid hs
    have hne : (roomE y0 past left x != 0) = true := by simpa using hal
    clear hs hal
    go_enter Try.func105, Try.ntmps105
    go_wp2_with (first
      | (go_at_call 110; refine (word_any _ (rest.take size) _ hbt (by simp; omega)).mono ?_; rintro e w' ⟨rfl, rfl⟩; rw [← HX.out])
      | (go_at_call 108; refine (room_any y0 past left x _ (by omega) (by omega)).mono ?_; rintro e w1 ⟨rfl, hb1⟩; have hd0 := (hb1.cell (p := ⟨g, 0, none⟩) hgl).trans hc0; have hd1 := (hb1.cell (p := ⟨g, 1, none⟩) hgl).trans hc1; have hf1 := fun j => (hb1.frozen (p := ⟨g, j, none⟩) hgl).trans (hf j)))
    go_ret
    exact ⟨by rw [HS.out]; rfl, by rw [HS.out]; exact (HR.out.below hb1).setErr _, ((Only.refl g w).below hb1).set _ _⟩

theorem step_room (g : Nat) (rest : List UInt8) (err : Int) (size : Nat) (y0 past left : Int) (w : World) (hr : RdR w g rest err) (h8 : size ≤ 8) (h1 : 1 ≤ size) (h4 : size ≤ 4) :
    Calls Try.prog 105 #[.pointer (some ⟨g, 0, none⟩), .int .i64 size, .func (.func 108) #[.agg #[.int .u64 y0, .int .i64 past, .int .u64 left]] #[]] w (Steps g size (roomE y0 past left) rest err w) := by
  by_cases he : err = 0
  · subst he
    by_cases hs : rest.length < size
    · exact step_short g rest size _ _ w hr hs
    · exact step_room_good g rest size y0 past left w hr h8 h1 (by omega) h4
  · exact step_err g rest err size _ _ w hr he

set_option maxHeartbeats 400000 in
theorem step_floats_good (g : Nat) (rest : List UInt8) (size : Nat)  (w : World) (hr : RdR w g rest 0) (h8 : size ≤ 8) (h1 : 1 ≤ size) (hs : size ≤ rest.length) :
    Calls Try.prog 105 #[.pointer (some ⟨g, 0, none⟩), .int .i64 size, .func (.func 109) #[.agg #[]] #[]] w (Steps g size (fun x => floatE x.toNat) rest 0 w) := by
  obtain ⟨A, c, hb, hc, hm, hx, hc0, hc1, hf, hgl⟩ := hr.open
  obtain ⟨ad, rfl⟩ := hx (by rintro rfl; simp at hs; omega)
  have hbt := hb.1.take (k := size) hs
  have hwl := wordN_lt8 (rest.take size) (by simp; omega)
  obtain ⟨x, hxe⟩ : ∃ x, x = wordN (rest.take size) := ⟨_, rfl⟩
  have HB := Lib.hid hb
  have HR := Lib.hid hr
  have HX := Lib.hid hxe
  clear hb hr hx
  rw [← hxe] at hwl
  clear hxe
  by_cases hal : floatE x = 0
  · have hs : stepF size (fun x => floatE x.toNat) rest 0 = (x, rest.drop size, 0) := by unfold stepF; rw [if_neg (by simp), if_neg (by omega), ← HX.out, if_neg (by simpa using hal)]
    have HS := Lib.hid hs
    have hne : (floatE x != 0) = false := by simp [hal]
    have HAL := Lib.hid hal
    clear hs hal
    go_enter Try.func105, Try.ntmps105
    go_wp2_with (first
      | (go_at_call 110; refine (word_any _ (rest.take size) _ hbt (by simp; omega)).mono ?_; rintro e w' ⟨rfl, rfl⟩; rw [← HX.out])
      | (go_at_call 109; refine (floats_any x _).mono ?_; rintro e w1 ⟨rfl, hb1⟩; have hd0 := (hb1.cell (p := ⟨g, 0, none⟩) hgl).trans hc0; have hd1 := (hb1.cell (p := ⟨g, 1, none⟩) hgl).trans hc1; have hf1 := fun j => (hb1.frozen (p := ⟨g, j, none⟩) hgl).trans (hf j)))
    · have e : c = size := by assumption
      have hd := HB.out.drop (k := size) (by omega)
      rw [if_pos e, show c - size = 0 by omega] at hd
      go_ret
      exact ⟨by rw [HS.out]; rfl, by rw [HS.out]; have h := (HR.out.below hb1).setBoth (floatE x) _ (hd.below hb1 (Nat.le_refl _)); rw [HAL.out] at h ⊢; exact h, (((Only.refl g w).below hb1).set _ _).set _ _⟩
    · have e : ¬c = size := by assumption
      have hd := HB.out.drop (k := size) (by omega)
      rw [if_neg e] at hd
      go_ret
      exact ⟨by rw [HS.out]; rfl, by rw [HS.out]; have h := (HR.out.below hb1).setBoth (floatE x) _ (hd.below hb1 (Nat.le_refl _)); rw [HAL.out] at h ⊢; exact h, (((Only.refl g w).below hb1).set _ _).set _ _⟩
  · have hs : stepF size (fun x => floatE x.toNat) rest 0 = (0, rest, floatE x) := by unfold stepF; rw [if_neg (by simp), if_neg (by omega), ← HX.out, if_pos (by simpa using hal)]; first | done | rfl
    have HS := Lib.hid hs
    have hne : (floatE x != 0) = true := by simpa using hal
    clear hs hal
    go_enter Try.func105, Try.ntmps105
    go_wp2_with (first
      | (go_at_call 110; refine (word_any _ (rest.take size) _ hbt (by simp; omega)).mono ?_; rintro e w' ⟨rfl, rfl⟩; rw [← HX.out])
      | (go_at_call 109; refine (floats_any x _).mono ?_; rintro e w1 ⟨rfl, hb1⟩; have hd0 := (hb1.cell (p := ⟨g, 0, none⟩) hgl).trans hc0; have hd1 := (hb1.cell (p := ⟨g, 1, none⟩) hgl).trans hc1; have hf1 := fun j => (hb1.frozen (p := ⟨g, j, none⟩) hgl).trans (hf j)))
    go_ret
    exact ⟨by rw [HS.out]; rfl, by rw [HS.out]; exact (HR.out.below hb1).setErr _, ((Only.refl g w).below hb1).set _ _⟩

theorem step_floats (g : Nat) (rest : List UInt8) (err : Int) (size : Nat)  (w : World) (hr : RdR w g rest err) (h8 : size ≤ 8) (h1 : 1 ≤ size) :
    Calls Try.prog 105 #[.pointer (some ⟨g, 0, none⟩), .int .i64 size, .func (.func 109) #[.agg #[]] #[]] w (Steps g size (fun x => floatE x.toNat) rest err w) := by
  by_cases he : err = 0
  · subst he
    by_cases hs : rest.length < size
    · exact step_short g rest size _ _ w hr hs
    · exact step_floats_good g rest size  w hr h8 h1 (by omega)
  · exact step_err g rest err size _ _ w hr he
end Go.Proofs.Ytlnpolepgdoloaa
