/- Layer 2: digests opened, by the program and by the document. -/
import Derived.Test.YteancgimgffkpaaTParse
namespace Go.Proofs.Yteancgimgffkpaa
open Go.RowKit
set_option linter.unusedVariables false

/-- a row of bytes does not lie in a block that holds no byte -/
theorem Bs.off {w : World} {v : Value} {l : List UInt8} {g : Nat} {cs : Array Value} {t : TypeId} (h : Bs w v l) (hg : w.heap[g]? = some (.cells cs t (0, 0))) (hy : ∀ (j : Nat) (b : UInt8), cs[j]? ≠ some (bc b)) (hne : l ≠ []) (k : Nat) (hk : v.ownBlock = some k) : some g ≠ some k := by
  obtain ⟨A, c, hv, hc, hm, hn, hx⟩ := h
  obtain ⟨ad, ha, hl, hr⟩ := hx (by simpa using hne)
  subst ha hv
  simp [Value.ownBlock] at hk
  intro e
  injection e with e
  obtain ⟨b, l', rfl⟩ : ∃ b l', l = b :: l' := by cases l with | nil => exact absurd rfl hne | cons b l' => exact ⟨b, l', rfl⟩
  have h0 := hr 0 (bc b) (by simp)
  rw [Addr.add_zero'] at h0
  simp only [World.cell?, hk, ← e, hg] at h0
  split at h0
  · cases h0
  · exact hy _ b h0

theorem Grows.only {B g : Nat} {w w' : World} {v : Value} {ls : List (List UInt8)} {cs : Array Value} {t : TypeId} (h : Grows B w v ls) (hB : g < B) (hg : w.heap[g]? = some (.cells cs t (0, 0))) (hy : ∀ (j : Nat) (b : UInt8), cs[j]? ≠ some (bc b)) (ho : Only g w w') : Grows B w' v ls := by
  obtain ⟨xs, h1, h2⟩ := h
  refine ⟨xs, h1.kept ho ?_, fun k x l hx hl => ⟨(h2 k x l hx hl).1.grown ho (fun hne g' hg' => (h2 k x l hx hl).1.off hg hy hne g' hg'), (h2 k x l hx hl).2⟩⟩
  rcases hv : v.ownBlock with _ | k
  · exact .inl rfl
  · refine .inr ?_
    have := (h1.lt k hv).1
    intro e
    injection e with e
    omega
theorem Grows.onlyR {B g : Nat} {w w' : World} {v : Value} {ls : List (List UInt8)} {rest : List UInt8} {err : Int} (h : Grows B w v ls) (hB : g < B) (hr : RdR w g rest err) (ho : Only g w w') : Grows B w' v ls := by
  obtain ⟨rv, hh, hb⟩ := hr
  obtain ⟨A, c, rfl, -⟩ := hb.1.open
  exact h.only hB hh (no_bytes _ _ _ _) ho
theorem Grows.onlyG {B g : Nat} {w w' : World} {v : Value} {ls : List (List UInt8)} {rest : List UInt8} {err : Int} (h : Grows B w v ls) (hB : g < B) (hr : RfS w g rest err) (ho : Only g w w') : Grows B w' v ls := by
  obtain ⟨bs, i, ⟨bv, hh, hb, -⟩, -⟩ := hr
  obtain ⟨A, c, rfl, -⟩ := hb.1.open
  exact h.only hB hh (no_bytes3 _ _ _ _ _) ho
theorem Grows.mono {B C : Nat} {w : World} {v : Value} {ls : List (List UInt8)} (h : Grows C w v ls) (hB : B ≤ C) : Grows B w v ls := by
  obtain ⟨xs, h1, h2⟩ := h
  exact ⟨xs, own_mono h1 hB, h2⟩

/-- a reader is as it was where a row of rows has grown -/
theorem Bt.grownRow {w w' : World} {v o : Value} {l : List UInt8} {B n : Nat} {xs : List Value} (h : Bt w v l) (ho : w.ownsRow B 31 1 o n xs) (hg : w.grownBy w' o.ownBlock) : Bt w' v l := by
  have hne : l ≠ [] → ∀ k, v.ownBlock = some k → o.ownBlock ≠ some k := by
    intro hl k hk e
    obtain ⟨cs, fr, h1⟩ := h.2 hl k hk
    rcases ho.2 with ⟨rfl, -⟩ | ⟨g, cap, cur, rfl, -, h2, -⟩
    · cases e
    · simp [Value.ownBlock] at e
      subst e
      rw [h1] at h2
      injection h2 with h2
      injection h2 with _ h2
      exact absurd h2 (by decide)
  refine ⟨h.1.grown hg hne, fun hl k hk => ?_⟩
  obtain ⟨cs, fr, h1⟩ := h.2 hl k hk
  exact ⟨cs, fr, (hg.block k (Array.getElem?_eq_some_iff.1 h1).1 (fun e => hne hl k hk e.symm)).trans h1⟩
theorem own_ne {w : World} {B g n : Nat} {e : TypeId} {o : Value} {xs : List Value} (ho : w.ownsRow B e 1 o n xs) (hB : g < B) : o.ownBlock ≠ some g := by
  intro e
  have := (ho.lt g e).1
  omega
theorem RdR.grownRow {w w' : World} {o : Value} {rest : List UInt8} {err : Int} {B g n : Nat} {xs : List Value} (h : RdR w g rest err) (ho : w.ownsRow B 31 1 o n xs) (hB : g < B) (hg : w.grownBy w' o.ownBlock) : RdR w' g rest err := by
  have hl := h.lt
  obtain ⟨rv, hh, hb⟩ := h
  exact ⟨rv, (hg.block g hl (fun e => own_ne ho hB e.symm)).trans hh, hb.grownRow ho hg⟩
theorem RfS.grownRow {w w' : World} {o : Value} {rest : List UInt8} {err : Int} {B g n : Nat} {xs : List Value} (h : RfS w g rest err) (ho : w.ownsRow B 31 1 o n xs) (hB : g < B) (hg : w.grownBy w' o.ownBlock) : RfS w' g rest err := by
  have hl := h.lt
  obtain ⟨bs, i, ⟨bv, hh, hb, h2⟩, h1⟩ := h
  exact ⟨bs, i, ⟨bv, (hg.block g hl (fun e => own_ne ho hB e.symm)).trans hh, hb.grownRow ho hg, h2⟩, h1⟩

theorem own_off' {B : Nat} {w : World} {v y : Value} {ls : List (List UInt8)} (h : Grows B w v ls) (hn : New w.heap.size y) (g : Nat) (hg : y.ownBlock = some g) : v.ownBlock ≠ some g := by
  obtain ⟨xs, h1, -⟩ := h
  exact own_off h1 hn g hg
theorem Only.grown {g : Nat} {a w w' : World} {row : Option Nat} (h : Only g a w) (hg : w.grownBy w' row) (hr : ∀ k, row = some k → a.heap.size ≤ k) : Only g a w' :=
  ⟨hg.os.trans h.os, hg.tape.trans h.tape, hg.output.trans h.output, Nat.le_trans h.size hg.size, fun i hi hne => (hg.block i (Nat.lt_of_lt_of_le hi h.size) (fun e => by have := hr i e.symm; omega)).trans (h.block i hi hne)⟩

theorem bytesF_left (most : Int) (rest : List UInt8) (e : Int) : (bytesF most rest e).2.1.length ≤ rest.length := by
  have hs : (stepF 4 (alBytes most rest) rest e).2.1.length ≤ rest.length := by
    unfold stepF
    split
    · simp
    split
    · simp
    split
    · simp
    · simp only [List.length_drop]; omega
  unfold bytesF
  split
  · exact hs
  · simp only [List.length_drop]; omega
theorem stepF_left (al : Int → Int) (rest : List UInt8) (e : Int) : (stepF 4 al rest e).2.1.length ≤ rest.length := by
  unfold stepF
  split
  · simp
  split
  · simp
  split
  · simp
  · simp only [List.length_drop]; omega

/-- what readParts leaves -/
def Parted (g : Nat) (r : List UInt8) (w : World) (e : Ending) (w' : World) : Prop :=
  ∃ v ys rest err, e = .returned v ∧ Grows w.heap.size w' v ys ∧ RdR w' g rest err ∧ Only g w w' ∧ Body r ys rest err

set_option maxHeartbeats 1000000 in
theorem readParts_any (g : Nat) (r : List UInt8) (w : World) (hr : RdR w g r 0) (hl : r.length ≤ 1000000) :
    Calls Try.prog 27 #[.pointer (some ⟨g, 0, none⟩)] w (Parted g r w) := by
  obtain ⟨i1, hj, hy0, hy1, hy2⟩ := info_parts rowinfo
  have hgl := hr.lt
  have hcn := count_lt r.length r 0
  have hcs := wrap64_small _ hcn
  have hst := count_at r.length r (.inl rfl)
  have hsl := stepF_left (alCount r.length) r 0
  have hcount := fun w hr => Count_any g r 0 r.length (by omega) (by omega) w hr
  rw [hcs] at hcount
  generalize stepF 4 (alCount r.length) r 0 = s at *
  obtain ⟨n, r1, e1⟩ := s
  simp only at hcn hcount hst hsl
  have HC := Lib.hid hcount
  clear hcount hcs
  rcases hst with ⟨he, hat, hbody⟩ | ⟨he, hn, hbody⟩
  · subst he
    have HB := Lib.hid hbody
    have HAT := Lib.hid hat
    clear hbody hat
    go_enter Try.func27, Try.ntmps27
    go_wp2_with (first
      | (go_at_call 39; refine (Left_any g r 0 _ hr).mono ?_; rintro e w' ⟨rfl, rfl⟩)
      | (go_at_call 38; refine (HC.out _ hr).mono ?_; rintro e w1 ⟨rfl, hr1, ho1⟩))
    go_loopw [3, 5] (fun v i wr => ∃ (k : Nat) (ys : List (List UInt8)) (rest : List UInt8) (err : Int), k ≤ n ∧ i = .int .i64 k ∧ At n (r.drop 4) k ys rest err ∧ rest.length ≤ 1000000 ∧ ys.length = k ∧ Grows w.heap.size wr v ys ∧ RdR wr g rest err ∧ Only g w wr) (fun _ i _ => n - (intOf i).toNat)
    case atStart => exact ⟨0, [], r1, 0, Nat.zero_le _, rfl, HAT.out, by omega, rfl, Grows.start _ _, hr1, ho1⟩
    case round =>
      obtain ⟨k, ys, rest, err, hk, rfl, hat, hrl, hyl, hgr, hrr, hor⟩ := hrel
      clear hr1 ho1
      have HA := Lib.hid hat
      clear hat
      by_cases hlt : k < n
      · by_cases he : err = 0
        · subst he
          have hb0 : ((0 : Int) == 0) = true := rfl
          have hnext := HA.out.step hlt rest.length (.inl (by omega))
          have hleft := bytesF_left rest.length rest 0
          have hbytes := fun w hr => Bytes_new g rest 0 rest.length (by omega) (by omega) w hr (by omega)
          generalize bytesF rest.length rest 0 = s at *
          obtain ⟨l, rest2, err2⟩ := s
          simp only at hnext hleft hbytes
          have HBY := Lib.hid hbytes
          have HNX := Lib.hid hnext
          clear hbytes hnext
          go_wp2_with (first
            | (go_at_call 29; refine (Err_any g rest 0 _ hrr).mono ?_; rintro e w' ⟨rfl, rfl⟩)
            | (go_at_call 39; refine (Left_any g rest 0 _ hrr).mono ?_; rintro e w' ⟨rfl, rfl⟩)
            | (go_at_call 40; refine (HBY.out _ hrr).mono ?_; rintro e w2 ⟨v2, rfl, hbs2, hr2, ho2, hnw2⟩; obtain ⟨xs, hown, hin⟩ := hgr.onlyR hgl hrr ho2; obtain ⟨A2, c2, rfl, -⟩ := hbs2.open; have hxl : xs.length = ys.length := by have := hown.1; simpa using this)
            | (at_builtin; refine wpList_append_rdo _ rfl (.tmp 20) (.tmp 25) 22 rfl w.heap.size 31 i1 (.slice none 0 0) 24 Try.underlying22 hj hy0 hy1 hy2 rfl _ _ _ rfl (hown.alloc _) _ _ rfl (Rd.one _ _ _) (by intro u hu; simp at hu; subst hu; rfl) (by simp; unfold maxLen; omega) (by simp; omega) (by have := hor.size; have := ho2.size; simp; omega) ?_; intro v3 w3 hown3 hg3 ho3))
          have hG := Grows.push (l := l) (B := w.heap.size) (ls := ys) (fun j y m hy hm => ⟨(hin j y m hy hm).1.below ((Below.refl w2.heap.size w2).alloc (Nat.le_refl _) _) (Nat.le_refl _), (hin j y m hy hm).2⟩) hxl (Rd.below hbs2 ((Below.refl w2.heap.size w2).alloc (Nat.le_refl _) _) (Nat.le_refl _)) (fun _ g hg => own_off' hgr hnw2 g hg) hown3 hg3 ho3
          have hR3 := RdR.grownRow (hr2.below ((Below.refl w2.heap.size w2).alloc (Nat.le_refl _) _)) (hown.alloc _) hgl hg3
          have hO3 := Only.grown (Only.below (hor.trans ho2) ((Below.refl w2.heap.size w2).alloc (Nat.le_refl _) _)) hg3 (fun k hk => (hown.lt k hk).1)
          go_roundw
          case rel => exact ⟨k + 1, ys ++ [l], rest2, err2, by omega, by go_num, HNX.out, by omega, by simp [hyl], hG, hR3, hO3⟩
          case measure => simp [intOf]; omega
        · have hb0 : (err == 0) = false := by simpa using he
          have hbd : Body r ys rest err := ⟨fun h => absurd h he, fun _ => by rw [HB.out]; exact HA.out.2.2 he⟩
          have HBD := Lib.hid hbd
          clear hbd he
          go_wp2_with (first
            | (go_at_call 29; refine (Err_any g rest err _ hrr).mono ?_; rintro e w' ⟨rfl, rfl⟩))
          go_ret
          exact ⟨_, ys, rest, err, rfl, hgr, hrr, hor, HBD.out⟩
      · have hbd : Body r ys rest err := by
          refine ⟨fun h => ?_, fun h => by rw [HB.out]; exact HA.out.2.2 h⟩
          subst h
          rw [HB.out]
          exact HA.out.all hlt
        have HBD := Lib.hid hbd
        clear hbd
        go_wp2_with (first
          | (go_at_call 29; refine (Err_any g rest err _ hrr).mono ?_; rintro e w' ⟨rfl, rfl⟩))
        go_ret
        exact ⟨_, ys, rest, err, rfl, hgr, hrr, hor, HBD.out⟩
  · subst hn
    have hbd : Body r [] r1 e1 := ⟨fun h => absurd h he, fun _ => hbody⟩
    have HBD := Lib.hid hbd
    clear hbd he hbody
    go_enter Try.func27, Try.ntmps27
    go_wp2_with (first
      | (go_at_call 39; refine (Left_any g r 0 _ hr).mono ?_; rintro e w' ⟨rfl, rfl⟩)
      | (go_at_call 38; refine (HC.out _ hr).mono ?_; rintro e w1 ⟨rfl, hr1, ho1⟩))
    go_loopw [3, 5] (fun v i wr => v = .slice none 0 0 ∧ i = .int .i64 0 ∧ wr = w1) (fun _ i _ => 0)
    case atStart => exact ⟨rfl, rfl, rfl⟩
    case round =>
      obtain ⟨rfl, rfl, rfl⟩ := hrel
      go_wp2
      go_ret
      exact ⟨_, [], r1, e1, rfl, Grows.start _ _, hr1, ho1, HBD.out⟩
end Go.Proofs.Yteancgimgffkpaa
