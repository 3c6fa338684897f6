/- si: HMadP HMny ADisR Awake3 ALaw1 ADeed ALaw2 ALaw7 APlay HTwo HSaid HBeg HSign HHeld HMade0 HMade1 HMade GArgs GArgs2 AArgs (made by shake.py). -/
import Derived.Lib.SlBytesConst
import Derived.Deep.CutRange
import Derived.Test.YticfnjihjpgneaaGreatsh
namespace Go.Proofs.YticfnjihjpgneaaGreat
open Go.RowKit
set_option linter.unusedVariables false
set_option linter.unusedSimpArgs false
set_option maxRecDepth 20000

def mdReq : Msg := ⟨1, 0, 0, 1000, 1, [], [], (0, 0), [], [], []⟩
def mdL1 : List UInt8 := encD mdReq
def mdD : List UInt8 := batB [(1000, mdL1)]
def mdPre (v s : Int) : Msg := ⟨2, v, s, 0, 0, mdD, [], (0, 0), [(1000, mdL1)], [], []⟩
def mdOther : List UInt8 := [97, 110, 111, 116, 104, 101, 114, 32, 111, 110, 101]
def mdVote (v s : Int) (x : Vt) : Msg := ⟨x.k, if x.k = 5 then 0 else v + x.v.tmod 3, s + x.q.tmod 3, 0, 0, if x.o = true then mdOther else mdD, [], (0, 0), [], [], []⟩
def mdP (f p v : Int) : Int := if p < 0 then primE f v else p
def mdV (v s : Int) (x : Vt) : Int × List UInt8 := (x.s, encD (mdVote v s x))
def mdS (f c v s : Int) (L : List (Int × List UInt8)) (x : Vt) : List (Int × List UInt8) := if (!x.u) = true then signT f c x.s (encD (mdVote v s x)) L else L
def mdL0 (f c v s p : Int) (L : List (Int × List UInt8)) : List (Int × List UInt8) := signT f c (mdP f p v) (encD (mdPre v s)) (signT f c 1000 mdL1 L)
def mdL (f c v s p : Int) (L : List (Int × List UInt8)) (vs : List Vt) : List (Int × List UInt8) := vs.foldl (mdS f c v s) (mdL0 f c v s p L)
theorem mdL_take (f c v s p : Int) (L : List (Int × List UInt8)) (vs : List Vt) (k : Nat) (h : k < vs.length) : mdL f c v s p L (vs.take (k + 1)) = mdS f c v s (mdL f c v s p L (vs.take k)) vs[k] := by
  unfold mdL
  rw [List.take_succ_eq_append_getElem h, List.foldl_append]
  rfl
theorem mdE1 : mdL1.length = 28 ∧ mdD.length ≤ 100 := by decide +kernel
theorem mdM1 : SmD mdReq := ⟨by decide, by decide, ⟨by decide, fun e he => by cases he⟩, ⟨by decide, fun e he => by cases he⟩, rfl⟩
theorem mdM2 (v s : Int) : SmD (mdPre v s) := ⟨Nat.le_trans mdE1.2 (by decide), by show (0 : Nat) ≤ _; omega, ⟨by show (1 : Nat) ≤ _; omega, fun e he => by
  have he : e ∈ [((1000 : Int), mdL1)] := he
  rw [List.mem_singleton.1 he]
  show mdL1.length ≤ _
  rw [mdE1.1]
  decide⟩, ⟨by show (0 : Nat) ≤ _; omega, fun e he => by cases he⟩, rfl⟩
theorem mdM3 (v s : Int) (x : Vt) : SmD (mdVote v s x) := ⟨by
  show (if x.o = true then mdOther else mdD).length ≤ _
  split
  · decide
  · exact Nat.le_trans mdE1.2 (by decide), by show (0 : Nat) ≤ _; omega, ⟨by show (0 : Nat) ≤ _; omega, fun e he => by cases he⟩, ⟨by show (0 : Nat) ≤ _; omega, fun e he => by cases he⟩, rfl⟩
theorem encD_le {m : Msg} : (encD m).length ≤ (putM m).length := by
  unfold encD
  split
  · exact Nat.le_refl _
  · exact Nat.zero_le _

section
variable {K : Kn}
theorem open_yes {e : Int × List UInt8} {kind : Int} (h : (openA K e kind).2 = 0) : chkA K e = 0 ∧ (decM e.2).2 = 0 ∧ (decM e.2).1.k = kind ∧ openA K e kind = ((decM e.2).1, 0) := by
  by_cases h1 : chkA K e = 0
  · by_cases h2 : (decM e.2).2 = 0
    · by_cases h3 : (decM e.2).1.k = kind
      · refine ⟨h1, h2, h3, ?_⟩
        unfold openA openX
        rw [if_pos h1, if_pos h2, if_pos h3]
      · unfold openA openX at h
        rw [if_pos h1, if_pos h2, if_neg h3] at h
        exact absurd h (by decide)
    · unfold openA openX at h
      rw [if_pos h1, if_neg h2] at h
      exact absurd h (by decide)
  · exact absurd h (openA_no h1)
theorem pre_yes {e : Int × List UInt8} (h : (preA K e).2 = 0) : chkA K e = 0 ∧ (decM e.2).2 = 0 ∧ (decM e.2).1.k = 2 ∧ (preA K e).1 = (decM e.2).1 ∧ e.1 = primE K.f (decM e.2).1.v ∧ (decM e.2).1.d = batB (decM e.2).1.b ∧ batA K (decM e.2).1.b = 0 := by
  have h0 : (openA K e 2).2 = 0 := by
    by_cases h0 : (openA K e 2).2 = 0
    · exact h0
    · unfold preA preX at h
      rw [if_neg h0] at h
      exact absurd h h0
  obtain ⟨h1, h2, h3, h4⟩ := open_yes h0
  unfold preA at h ⊢
  rw [h4] at h ⊢
  unfold preX at h ⊢
  rw [if_pos rfl] at h ⊢
  by_cases h5 : e.1 = primE K.f (decM e.2).1.v
  · rw [if_pos h5] at h ⊢
    by_cases h6 : (decM e.2).1.d = batB (decM e.2).1.b
    · rw [if_pos h6] at h ⊢
      by_cases h7 : batA K (decM e.2).1.b = 0
      · rw [if_pos h7]
        exact ⟨h1, h2, h3, rfl, h5, h6, h7⟩
      · rw [if_neg h7] at h
        exact absurd h h7
    · rw [if_neg h6] at h
      exact absurd h (by decide)
  · rw [if_neg h5] at h
    exact absurd h (by decide)
theorem prepX_yes {p : Msg × Int} {t : Int} (h : (prepX p t).2 = 0) : p.2 = 0 ∧ t = 0 ∧ prepX p t = (p.1, 0) := by
  unfold prepX at h ⊢
  by_cases h1 : p.2 = 0
  · rw [if_pos h1] at h ⊢
    by_cases h2 : t = 0
    · rw [if_pos h2]
      exact ⟨h1, h2, rfl⟩
    · rw [if_neg h2] at h
      exact absurd h h2
  · rw [if_neg h1] at h
    exact absurd h h1
theorem rnd_yes {vo : Nat → Msg × Int} {mu ds : Nat → Int} {k : Nat} (h : rndX vo mu ds k = 0) : (vo k).2 = 0 ∧ mu k = 0 ∧ ds (k + 1) = 0 := by
  by_cases h1 : (vo k).2 = 0
  · by_cases h2 : mu k = 0
    · rw [rnd_3 h1 h2] at h
      exact ⟨h1, h2, h⟩
    · rw [rnd_2 h1 h2] at h
      exact absurd h h2
  · rw [rnd_1 h1] at h
    exact absurd h h1
theorem tal_yes {n : Nat} {enough : Int} {vo : Nat → Msg × Int} {mu ds : Nat → Int} (h : talX n enough vo mu ds = 0) : (∀ j, j < n → (vo j).2 = 0 ∧ mu j = 0 ∧ ds (j + 1) = 0) ∧ enough ≤ n := by
  obtain ⟨h1, h2⟩ := findX_zero h
  refine ⟨fun j hj => rnd_yes (h1 j hj), ?_⟩
  by_cases h3 : (n : Int) < enough
  · rw [if_pos h3] at h2
    exact absurd h2 (by decide)
  · omega
theorem prim_yes {p m : Msg} {t s0 : Int} (h : primC p m t s0 = 0) : votesC p m = 0 ∧ ¬ t = s0 := by
  unfold primC at h
  by_cases h1 : votesC p m = 0
  · rw [if_pos h1] at h
    refine ⟨h1, fun h2 => ?_⟩
    rw [if_pos h2] at h
    exact absurd h (by decide)
  · rw [if_neg h1] at h
    exact absurd h h1
theorem dis_all {l : List (Int × List UInt8)} (hf : 0 ≤ K.f) (h : ∀ j, j < l.length → disA K l (j + 1) = 0) : cntP K.f (l.map (·.1)) = l.length := by
  rcases Nat.eq_zero_or_pos l.length with h0 | h0
  · rw [List.eq_nil_of_length_eq_zero h0]
    exact cnt_nil _
  · have h1 := h (l.length - 1) (by omega)
    unfold disA at h1
    rw [show l.length - 1 + 1 = l.length by omega, List.take_length] at h1
    rw [disE_cnt hf h1, List.length_map]
theorem smD_mid {m : Msg} (h : SmD m) : MidM m := ⟨by have := h.d; omega, by have := h.x; omega, ⟨by have := h.b.1; omega, h.b.2⟩, ⟨by have := h.p.1; omega, h.p.2⟩, by rw [h.q]; exact ⟨by decide, fun c hc => by cases hc⟩⟩
theorem putM_len {m : Msg} (h : SmD m) : (putM m).length ≤ 10000000 := by
  have hput : putM m = _ := put_eq (shapeM m.k).1 m
  rw [hput]
  simp only [List.length_append]
  have a1 := numP_le (shapeM m.k).1.v m.v
  have a2 := numP_le (shapeM m.k).1.s m.s
  have a3 := numP_le (shapeM m.k).1.c m.c
  have a4 := numP_le (shapeM m.k).1.t m.t
  have a5 := rowP_le (shapeM m.k).1.d m.d
  have a6 := rowP_le (shapeM m.k).1.x m.x
  have a7 := resP_le (shapeM m.k).1.r m.r
  have a8 := lisP_le envW 100012 30 (shapeM m.k).1.b m.b (fun e he => by have := h.b.2 e he; rw [envW_length]; omega) h.b.1
  have a9 := lisP_le envW 100012 30 (shapeM m.k).1.p m.p (fun e he => by have := h.p.2 e he; rw [envW_length]; omega) h.p.1
  have a10 := lisP_le crtW 0 0 (shapeM m.k).1.q m.q (fun e he => by rw [h.q] at he; cases he) (by rw [h.q]; exact Nat.le_refl _)
  have a11 := i8B_length m.k
  have b1 := h.d
  have b2 := h.x
  simp only [List.length_nil]
  omega
theorem dec_encD {m : Msg} (ho : OkM m) (h : SmD m) (h0 : (decM (encD m)).2 = 0) : (decM (encD m)).1 = m ∧ checkM m = true := by
  by_cases hc : checkD m = true
  · have hd := encD_dec ho (smD_mid h) hc (by have := putM_len h; omega)
    by_cases hc2 : checkM m = true
    · rw [hd, if_pos hc2]
      exact ⟨rfl, hc2⟩
    · rw [hd, if_neg hc2] at h0
      exact absurd h0 (by decide)
  · have he : encD m = [] := if_neg hc
    rw [he, dec_nil] at h0
    exact absurd h0 (by decide)
theorem putM_most {m : Msg} (nb sb np sp : Nat) (hb : m.b.length ≤ nb ∧ ∀ e ∈ m.b, e.2.length ≤ sb) (hp : m.p.length ≤ np ∧ ∀ e ∈ m.p, e.2.length ≤ sp) (hq : m.q = []) : (putM m).length ≤ 200 + m.d.length + m.x.length + (12 + sb) * nb + (12 + sp) * np := by
  have hput : putM m = _ := put_eq (shapeM m.k).1 m
  rw [hput]
  simp only [List.length_append]
  have a1 := numP_le (shapeM m.k).1.v m.v
  have a2 := numP_le (shapeM m.k).1.s m.s
  have a3 := numP_le (shapeM m.k).1.c m.c
  have a4 := numP_le (shapeM m.k).1.t m.t
  have a5 := rowP_le (shapeM m.k).1.d m.d
  have a6 := rowP_le (shapeM m.k).1.x m.x
  have a7 := resP_le (shapeM m.k).1.r m.r
  have a8 := lisP_le envW (12 + sb) nb (shapeM m.k).1.b m.b (fun e he => by have := hb.2 e he; rw [envW_length]; omega) hb.1
  have a9 := lisP_le envW (12 + sp) np (shapeM m.k).1.p m.p (fun e he => by have := hp.2 e he; rw [envW_length]; omega) hp.1
  have a10 := lisP_le crtW 0 0 (shapeM m.k).1.q m.q (fun e he => by rw [hq] at he; cases he) (by rw [hq]; exact Nat.le_refl _)
  have a11 := i8B_length m.k
  simp only [List.length_nil]
  omega
theorem mdPre_len (v s : Int) : (encD (mdPre v s)).length ≤ 1000 := by
  refine Nat.le_trans encD_le ?_
  have h := putM_most (m := mdPre v s) 1 28 0 0 ⟨Nat.le_refl _, fun e he => by
    have he : e ∈ [((1000 : Int), mdL1)] := he
    rw [List.mem_singleton.1 he]
    exact Nat.le_of_eq mdE1.1⟩ ⟨Nat.le_refl _, fun e he => by cases he⟩ rfl
  have h2 : (mdPre v s).d.length ≤ 100 := mdE1.2
  have h3 : (mdPre v s).x.length = 0 := rfl
  omega
theorem mdVote_len (v s : Int) (x : Vt) : (encD (mdVote v s x)).length ≤ 1000 := by
  refine Nat.le_trans encD_le ?_
  have h := putM_most (m := mdVote v s x) 0 0 0 0 ⟨Nat.le_refl _, fun e he => by cases he⟩ ⟨Nat.le_refl _, fun e he => by cases he⟩ rfl
  have h2 : (mdVote v s x).d.length ≤ 100 := by
    show (if x.o = true then mdOther else mdD).length ≤ _
    split
    · decide
    · exact mdE1.2
  have h3 : (mdVote v s x).x.length = 0 := rfl
  omega
theorem md_okes {v s : Int} {vs : List Vt} (h : ∀ x ∈ vs, ok64 x.s) : OkEs (vs.map (mdV v s)) := fun e he => by
  obtain ⟨x, hx, rfl⟩ := List.mem_map.1 he
  exact ⟨h x hx, Nat.le_trans (mdVote_len v s x) (by decide)⟩
theorem okM_pre {v s : Int} (hv : 0 ≤ v ∧ v < 1073741824) (hs : 0 < s ∧ s < 1073741824) {d : List UInt8} {b : List (Int × List UInt8)} (hb : ∀ e ∈ b, in64B e.1) : OkM ⟨2, v, s, 0, 0, d, [], (0, 0), b, [], []⟩ :=
  ⟨(show in64B 2 from ⟨by decide, by decide⟩), (show in64B v by unfold in64B; omega), (show in64B s by unfold in64B; omega), in64_0, in64_0, ⟨in64_0, in64_0⟩, hb, (fun e he => by cases he), (fun e he => by cases he)⟩
theorem mdPre_ok {v s : Int} (hv : 0 ≤ v ∧ v < 1073741824) (hs : 0 < s ∧ s < 1073741824) : OkM (mdPre v s) := okM_pre hv hs fun e he => by
  have he : e ∈ [((1000 : Int), mdL1)] := he
  rw [List.mem_singleton.1 he]
  unfold in64B
  omega
theorem prep_yes {c : Crt} (hf : 0 ≤ K.f) (h : (prepA K c).2 = 0) : (preA K c.1).2 = 0 ∧ (prepA K c).1 = (preA K c.1).1 ∧ 2 * K.f ≤ c.2.length ∧ cntP K.f (c.2.map (·.1)) = c.2.length ∧ ∀ e ∈ c.2, ¬ e.1 = c.1.1 := by
  obtain ⟨h1, h2, h3⟩ := prepX_yes h
  obtain ⟨h4, h5⟩ := tal_yes h2
  refine ⟨h1, by unfold prepA; rw [h3], h5, dis_all hf fun j hj => (h4 j hj).2.2, fun e he => ?_⟩
  obtain ⟨j, hj, rfl⟩ := List.getElem_of_mem he
  have h7 := (h4 j hj).2.1
  unfold muP at h7
  have := (prim_yes h7).2
  rwa [List.getD_eq_getElem?_getD, List.getElem?_eq_getElem hj] at this
theorem prep_cnt {c : Crt} (hf : 0 ≤ K.f) (h : (prepA K c).2 = 0) (hp : repB K.f c.1.1 = true) : 2 * K.f + 1 ≤ cntP K.f (c.2.map (·.1) ++ [c.1.1]) := by
  obtain ⟨-, -, h3, h4, h5⟩ := prep_yes hf h
  have hn : ¬ c.1.1 ∈ c.2.map (·.1) := fun hm => by
    obtain ⟨e, he, h6⟩ := List.mem_map.1 hm
    exact h5 e he h6
  rw [cnt_snoc K.f hf, h4, if_pos (by rw [hp, decide_eq_false hn]; rfl)]
  omega
theorem cnt_mono (f : Int) {l m : List Int} (h : ∀ x, x ∈ l → x ∈ m) : cntP f l ≤ cntP f m := by
  unfold cntP
  exact List.countP_mono_left fun r _ hr => by
    simp only [decide_eq_true_eq] at hr ⊢
    exact h _ hr
theorem rep_prim {f v : Int} (hf : 0 ≤ f) (hv : 0 ≤ v) : repB f (primE f v) = true := by
  unfold primE repB
  rw [if_neg (by omega)]
  have h1 := Int.emod_nonneg v (show (3 * f + 1) ≠ 0 by omega)
  have h2 := Int.emod_lt_of_pos v (show 0 < 3 * f + 1 by omega)
  simp only [Bool.and_eq_true, decide_eq_true_eq]
  exact ⟨h1, h2⟩
theorem one_yes {c d : Crt} {pr : Int} {both : List Int} (hf : 0 ≤ K.f) (hc : (prepA K c).2 = 0) (hd : (prepA K d).2 = 0) (hp : repB K.f pr = true) (h1 : c.1.1 = pr) (h2 : d.1.1 = pr)
    (hb : pr ∈ both ∧ ∀ x, x ∈ c.2.map (·.1) → x ∈ d.2.map (·.1) → x ∈ both) : K.f < cntP K.f both := by
  have a1 := prep_cnt hf hc (by rw [h1]; exact hp)
  have a2 := prep_cnt hf hd (by rw [h2]; exact hp)
  rw [h1] at a1
  rw [h2] at a2
  have a3 := cnt_both K.f (c.2.map (·.1) ++ [pr]) (d.2.map (·.1) ++ [pr])
  have a4 := cnt_mono K.f (l := (c.2.map (·.1) ++ [pr]).filter fun x => decide (x ∈ d.2.map (·.1) ++ [pr])) (m := both) fun x hx => by
    obtain ⟨b1, b2⟩ := List.mem_filter.1 hx
    have b2 : x ∈ d.2.map (·.1) ++ [pr] := by simpa using b2
    rcases List.mem_append.1 b1 with b1 | b1
    · rcases List.mem_append.1 b2 with b2 | b2
      · exact hb.2 x b1 b2
      · rw [List.mem_singleton.1 b2]; exact hb.1
    · rw [List.mem_singleton.1 b1]; exact hb.1
  omega
end



section
variable {w : World} {g bm : Nat}
end

def clF (F : Int) : Int := max 0 (min F 2)
def clC (C : Int) : Int := max 0 (min C 8)

structure Both (w0 W : World) (g bm g2 : Nat) (v : Value) (f c : Int) : Prop where
  au : Au W g bm f c []
  dt : DT W g2 f c v [] (fun k => w0.heap.size ≤ k ∧ k ≠ g ∧ k ≠ bm)
  below : Below w0.heap.size w0 W
  at_g : w0.heap.size ≤ g
  at_bm : w0.heap.size ≤ bm

theorem Both.one {w0 w1 w2 w3 : World} {g bm g2 : Nat} {v : Value} {f c : Int} (h0 : Below w0.heap.size w0 w1) (hg : w1.heap.size ≤ g) (hbm : w1.heap.size ≤ bm) (hA : Au w2 g bm f c []) (h1 : Below w1.heap.size w1 w2)
    (hD : DT w3 g2 f c v [] (fun k => w2.heap.size ≤ k)) (h2 : Below w2.heap.size w2 w3) : Both w0 w3 g bm g2 v f c := by
  have s0 := h0.size
  have s1 := h1.size
  have lg := hA.1.lt
  have lb := hA.2.lt
  exact ⟨hA.below h2 (Nat.le_refl _), hD.mono (fun k _ hk => ⟨by omega, by omega, by omega⟩), (h0.trans (h1.mono s0)).trans (h2.mono (by omega)), by omega, by omega⟩
theorem Both.two {w0 w1 w2 w3 : World} {g bm g2 : Nat} {v : Value} {f c : Int} (h0 : Below w0.heap.size w0 w1) (hD : DT w2 g2 f c v [] (fun k => w1.heap.size ≤ k)) (h1 : Below w1.heap.size w1 w2)
    (hg : w2.heap.size ≤ g) (hbm : w2.heap.size ≤ bm) (hA : Au w3 g bm f c []) (h2 : Below w2.heap.size w2 w3) : Both w0 w3 g bm g2 v f c := by
  have s0 := h0.size
  have s1 := h1.size
  exact ⟨hA, (hD.mono (fun k hk hk' => ⟨by omega, by omega, by omega⟩)).below h2, (h0.trans (h1.mono s0)).trans (h2.mono (by omega)), by omega, by omega⟩

structure Dd where
  s : Int
  l : List UInt8
  ask : Bool

def Ds (w : World) (v : Value) (ds : List Dd) : Prop :=
  ∃ A c, v = .slice A ds.length c ∧ ds.length ≤ c ∧ c ≤ maxLen ∧ (∀ k (hk : k < ds.length), ∃ ad bv, A = some ad ∧ ad.block < w.heap.size ∧ w.cell? (ad.add (k * 3)) = some (.int .i64 ds[k].s) ∧
    w.cell? ⟨(ad.add (k * 3)).block, (ad.add (k * 3)).off + 1, none⟩ = some bv ∧ w.cell? ⟨(ad.add (k * 3)).block, (ad.add (k * 3)).off + 2, none⟩ = some (.bool ds[k].ask) ∧ Bs w bv ds[k].l ∧ ok64 ds[k].s)
theorem Ds.below {w w' : World} {v : Value} {ds : List Dd} {B : Nat} (h : Ds w v ds) (hb : Below B w w') (hB : w.heap.size ≤ B) : Ds w' v ds := by
  obtain ⟨A, c, hv, hc, hm, hx⟩ := h
  refine ⟨A, c, hv, hc, hm, fun k hk => ?_⟩
  obtain ⟨ad, bv, ha, hl, h0, h1, h2, h3, h4⟩ := hx k hk
  have hbl : (ad.add (k * 3)).block < B := by rw [block_add]; omega
  exact ⟨ad, bv, ha, Nat.lt_of_lt_of_le hl hb.size, (hb.cell hbl).trans h0, (hb.cell (p := ⟨_, _, none⟩) hbl).trans h1, (hb.cell (p := ⟨_, _, none⟩) hbl).trans h2, h3.below hb hB, h4⟩

theorem addP_length (L : List (Int × List UInt8)) (s : Int) (l : List UInt8) : (addP L s l).length ≤ L.length + 1 := by
  unfold addP; split <;> simp
theorem signT_length (f c s : Int) (l : List UInt8) (L : List (Int × List UInt8)) : (signT f c s l L).length ≤ L.length + 1 := by
  unfold signT
  split
  · exact addP_length L s l
  · omega
def there (f c : Int) (ds : List Dd) (y : Dd) : Bool := ds.any fun d => (signE f c d.s d.l == 0) && (d.s == y.s) && (d.l == y.l)





theorem Tab.keep {w w' : World} {b : Nat} {L : List (Int × List UInt8)} (h : Tab w b L) (hb : w'.heap[b]? = w.heap[b]?) : Tab w' b L := by
  obtain ⟨D, ⟨es, clock, h1, r⟩, h2, h3⟩ := h
  exact ⟨D, ⟨es, clock, hb.trans h1, r⟩, h2, h3⟩
theorem Au.keep {w w' : World} {g bm : Nat} {f c : Int} {L : List (Int × List UInt8)} (h : Au w g bm f c L) (hg : w'.heap[g]? = w.heap[g]?) (hb : w'.heap[bm]? = w.heap[bm]?) : Au w' g bm f c L :=
  ⟨⟨hg.trans h.1.1, h.1.2⟩, h.2.keep hb⟩
theorem Ev.keep {w w' : World} {h : Nat} {x y : Value} (he : Ev w h x y) (hh : w'.heap[h]? = w.heap[h]?) : Ev w' h x y := hh.trans he

structure PI (w wr : World) (g bm g2 : Nat) (f c : Int) (v : Value) (E : List Tri) : Prop where
  au : Au wr g bm f c (pairsT E)
  dt : DT wr g2 f c v E (fun j => w.heap.size ≤ j ∧ j ≠ g ∧ j ≠ bm)
  below : Below w.heap.size w wr
  at_g : w.heap.size ≤ g
  at_bm : w.heap.size ≤ bm
theorem PI.step {w wr W : World} {g bm g2 : Nat} {f c : Int} {v : Value} {E : List Tri} (h : PI w wr g bm g2 f c v E) (hb : Below wr.heap.size wr W) : PI w W g bm g2 f c v E :=
  ⟨h.au.below hb (Nat.le_refl _), h.dt.below hb, h.below.trans (hb.mono h.below.size), h.at_g, h.at_bm⟩

structure Aft (w wx : World) (g bm g2 : Nat) (f c : Int) (v : Value) (E : List Tri) (bv : Value) (l : List UInt8) (he : Nat) (sS : Value) (ve : Value) (B n : Nat) (xs : List Value) : Prop where
  au : Au wx g bm f c (pairsT E)
  dt : DT wx g2 f c v E (fun j => w.heap.size ≤ j ∧ j ≠ g ∧ j ≠ bm ∧ ve.ownBlock ≠ some j)
  body : Bs wx bv l
  own : wx.ownsRow B 5 1 ve n xs
  ev : Ev wx he sS ve
  below : Below w.heap.size w wx
  at_g : w.heap.size ≤ g
  at_bm : w.heap.size ≤ bm
  g_lt : g < B
  bm_lt : bm < B
  w_le : w.heap.size ≤ B
  body_lt : l ≠ [] → ∀ k, bv.ownBlock = some k → k < B

section
variable {w wx W : World} {g bm g2 : Nat} {f c : Int} {v : Value} {E : List Tri} {bv : Value} {l : List UInt8} {he : Nat} {sS ve : Value} {B n : Nat} {xs : List Value}
theorem Aft.step (h : Aft w wx g bm g2 f c v E bv l he sS ve B n xs) (hb : Below wx.heap.size wx W) : Aft w W g bm g2 f c v E bv l he sS ve B n xs where
  au := h.au.below hb (Nat.le_refl _)
  dt := h.dt.below hb
  body := h.body.below hb (Nat.le_refl _)
  own := own_below h.own hb
  ev := h.ev.below hb
  below := h.below.trans (hb.mono h.below.size)
  at_g := h.at_g
  at_bm := h.at_bm
  g_lt := h.g_lt
  bm_lt := h.bm_lt
  w_le := h.w_le
  body_lt := h.body_lt

end

section
variable {w wr w2 w3 w4 W w5 Wc : World} {g bm g2 : Nat} {f c : Int} {v : Value} {E : List Tri} {L : List (Int × List UInt8)} {bv : Value} {l : List UInt8} {sS ve : Value} {n : Nat} {xs : List Value}
end

theorem pairsT_length (E : List Tri) : (pairsT E).length = E.length := by simp [pairsT]

structure Bth (w : World) (N g bm g2 : Nat) (f c : Int) (L : List (Int × List UInt8)) (T : Nat → Prop) : Prop where
  au : Au w g bm f c L
  dt : ∃ v E, DT w g2 f c v E T ∧ pairsT E = L
  ng : ¬ T g
  nb : ¬ T bm
  lt : ∀ k, T k → k < w.heap.size
  lo : N ≤ bm ∧ ∀ k, T k → N ≤ k
  low : N ≤ w.heap.size
structure Turn (T : Nat → Prop) (bm : Nat) (w w' : World) (T' : Nat → Prop) : Prop where
  off : Off (fun k => T k ∨ k = bm) w w'
  new : ∀ k, k < w.heap.size → T' k → T k
abbrev offT (T : Nat → Prop) (bm : Nat) : Nat → Prop := fun k => ¬ (T k ∨ k = bm)
section
variable {w w' w2 : World} {N g bm g2 : Nat} {f c : Int} {L : List (Int × List UInt8)} {T T' T2 : Nat → Prop}
theorem Turn.refl : Turn T bm w w T := ⟨Off.of_below (Below.refl _ _), fun _ _ h => h⟩
theorem Turn.below (hb : Below w.heap.size w w') : Turn T bm w w' T := ⟨Off.of_below hb, fun _ _ h => h⟩
theorem Turn.trans (h : Turn T bm w w' T') (h2 : Turn T' bm w' w2 T2) : Turn T bm w w2 T2 where
  off := ⟨h2.off.os.trans h.off.os, h2.off.tape.trans h.off.tape, h2.off.output.trans h.off.output, Nat.le_trans h.off.size h2.off.size, fun k hk hn => (h2.off.block k (Nat.lt_of_lt_of_le hk h.off.size) fun h3 => hn (h3.elim (fun h4 => .inl (h.new k hk h4)) .inr)).trans (h.off.block k hk hn)⟩
  new := fun k hk h3 => h.new k hk (h2.new k (Nat.lt_of_lt_of_le hk h.off.size) h3)
theorem Turn.keep (h : Turn T bm w w' T') : KeptC (offT T bm) (offT T' bm) w w' := fun k hk hc => ⟨h.off.block k hk hc, fun h3 => hc (h3.elim (fun h4 => .inl (h.new k hk h4)) .inr)⟩
theorem Turn.lowB (h : Turn T bm w w' T') (hB : Bth w N g bm g2 f c L T) : Below N w w' :=
  ⟨h.off.os, h.off.tape, h.off.output, h.off.size, fun k hk => h.off.block k (Nat.lt_of_lt_of_le hk hB.low) fun h3 => by
    rcases h3 with h4 | h4
    · have := hB.lo.2 k h4; omega
    · have := hB.lo.1; omega⟩
theorem Bth.below (h : Bth w N g bm g2 f c L T) (hb : Below w.heap.size w w') : Bth w' N g bm g2 f c L T := by
  obtain ⟨v, E, hd, he⟩ := h.dt
  exact ⟨h.au.below hb (Nat.le_refl _), ⟨v, E, hd.below hb, he⟩, h.ng, h.nb, fun k hk => Nat.lt_of_lt_of_le (h.lt k hk) hb.size, h.lo, Nat.le_trans h.low hb.size⟩
theorem Bth.mid {L' : List (Int × List UInt8)} (h : Bth w N g bm g2 f c L T) (ha : Au w' g bm f c L') (hg : w.grownBy w' (some bm)) : (∃ v E, DT w' g2 f c v E T ∧ pairsT E = L) ∧ Turn T bm w w' T := by
  obtain ⟨v, E, hd, he⟩ := h.dt
  exact ⟨⟨v, E, hd.grown hg (fun k hk hT => h.nb (by injection hk with hk; subst hk; exact hT)), he⟩, ⟨Off.of_grown hg fun k hk => .inr (by injection hk with hk; exact hk.symm), fun _ _ h => h⟩⟩
theorem Bth.end' {L' : List (Int × List UInt8)} (h : Bth w N g bm g2 f c L T) (ha : Au w' g bm f c L') (hg : w.grownBy w' (some bm)) {w3 : World} (hb : Below w'.heap.size w' w3) {v' : Value} {E' : List Tri} (hd : DT w2 g2 f c v' E' (fun k => T k ∨ w3.heap.size ≤ k)) (hp : pairsT E' = L') (ho : Off (fun k => T k ∨ w3.heap.size ≤ k) w3 w2) :
    Bth w2 N g bm g2 f c L' (fun k => (T k ∨ w3.heap.size ≤ k) ∧ k < w2.heap.size) ∧ Turn T bm w w2 (fun k => (T k ∨ w3.heap.size ≤ k) ∧ k < w2.heap.size) := by
  have hT1 : Turn T bm w w' T := ⟨Off.of_grown hg fun k hk => .inr (by injection hk with hk; exact hk.symm), fun _ _ h => h⟩
  have hT2 := hT1.trans (Turn.below (bm := bm) (T := T) hb)
  have ha3 := ha.below hb (Nat.le_refl _)
  have hgl : g < w3.heap.size := ha3.1.lt
  have hbl : bm < w3.heap.size := ha3.2.lt
  refine ⟨⟨ha3.keep (ho.block g hgl fun h3 => h3.elim h.ng (fun h4 => by omega)) (ho.block bm hbl fun h3 => h3.elim h.nb (fun h4 => by omega)), ⟨v', E', hd.mono fun k hk h3 => ⟨h3, hk⟩, hp⟩, fun h3 => h3.1.elim h.ng (fun h4 => by omega), fun h3 => h3.1.elim h.nb (fun h4 => by omega), fun k hk => hk.2, ⟨h.lo.1, fun k hk => ?_⟩, ?_⟩, hT2.trans ⟨?_, fun k hk h3 => h3.1.elim id (fun h4 => by omega)⟩⟩
  · rcases hk.1 with h4 | h4
    · exact h.lo.2 k h4
    · have := h.low
      have := hg.size
      have := hb.size
      omega
  · have := h.low
    have := hg.size
    have := hb.size
    have := ho.size
    omega
  · exact ⟨ho.os, ho.tape, ho.output, ho.size, fun k hk hn => ho.block k hk fun h3 => h3.elim (fun h4 => hn (.inl h4)) (fun h4 => by omega)⟩
end

abbrev SSd (w0 : World) (b : Nat) (s : Int) (m : Msg) (P : Plc) : World → Prop := fun W => Below w0.heap.size w0 W ∧ W.cell? ⟨b, 0, none⟩ = some (.int .i64 s) ∧ W.cell? ⟨b, 2, none⟩ = some (.int .i64 m.k) ∧ W.cell? ⟨b, 3, none⟩ = some (.int .i64 m.v) ∧ W.cell? ⟨b, 4, none⟩ = some (.int .i64 m.s) ∧ W.cell? ⟨b, 5, none⟩ = some (.int .i64 m.c) ∧ W.cell? ⟨b, 6, none⟩ = some (.int .i64 m.t) ∧ W.cell? ⟨b, 7, none⟩ = some (.string (strB m.d)) ∧ W.cell? ⟨b, 8, none⟩ = some (.slice P.x.1 m.x.length P.x.2) ∧ W.cell? ⟨b, 9, none⟩ = some (.int .i64 m.r.1) ∧ W.cell? ⟨b, 10, none⟩ = some (.int .i64 m.r.2) ∧ W.cell? ⟨b, 11, none⟩ = some (.slice P.b.1 m.b.length P.b.2) ∧ W.cell? ⟨b, 12, none⟩ = some (.slice P.p.1 m.p.length P.p.2) ∧ W.cell? ⟨b, 13, none⟩ = some (.slice P.q.1 m.q.length P.q.2)
structure Fresh (w w' : World) (T' : Nat → Prop) (bm : Nat) (bv : Value) (l : List UInt8) : Prop where
  bs : Bs w' bv l
  new : ∀ k, bv.ownBlock = some k → w.heap.size ≤ k ∧ k < w'.heap.size ∧ offT T' bm k
def SaidP (N g bm g2 : Nat) (f c : Int) (s : Int) (l : List UInt8) (L' : List (Int × List UInt8)) (T : Nat → Prop) (w : World) (e : Ending) (w' : World) : Prop :=
  ∃ bv T', e = .returned (agE s bv) ∧ Fresh w w' T' bm bv l ∧ Bth w' N g bm g2 f c L' T' ∧ Turn T bm w w' T'
structure EnB (w0 wx : World) (b5 : Nat) (s : Int) (bv : Value) (l : List UInt8) : Prop where
  ev : wx.heap[b5]? = some (.cells #[.int .i64 s, bv] 35 (0, 0))
  lo : w0.heap.size ≤ b5
  bs : Bs wx bv l
  new : ∀ k, bv.ownBlock = some k → w0.heap.size ≤ k ∧ k < wx.heap.size
  below : Below w0.heap.size w0 wx
theorem enb_1 {w0 w2 : World} {s : Int} {bv : Value} {l : List UInt8} {B : Nat} (hB : w0.heap.size ≤ B) (ho : w2.ownsRow B 5 1 bv l.length (l.map bc)) (hb : Below w0.heap.size w0 w2) : EnB w0 (w2.alloc (.cells #[.int .i64 s, bv] 35)) w2.heap.size s bv l :=
  ⟨heap_alloc_new _ _, hb.size, (own_bs ho).below (alloc1B _ _) (Nat.le_refl _), fun k hk => ⟨Nat.le_trans hB (ho.lt k hk).1, Nat.lt_of_lt_of_le (ho.lt k hk).2 (alloc1B _ _).size⟩, bel2M hb (alloc1B _ _)⟩
theorem enb_2 {w0 w1 w2 : World} {s : Int} {bv x y : Value} {l : List UInt8} (hb1 : Below w0.heap.size w0 w1) (ho : w2.ownsRow (w1.alloc (.cells #[x, y] 35)).heap.size 5 1 bv l.length (l.map bc)) (hb' : Below (w1.alloc (.cells #[x, y] 35)).drew.heap.size (w1.alloc (.cells #[x, y] 35)).drew w2) :
    EnB w0 ((w2.setCell ⟨w1.heap.size, 0, none⟩ (.int .i64 s)).setCell ⟨w1.heap.size, 1, none⟩ bv) w1.heap.size s bv l := by
  have hb : Below (w1.alloc (.cells #[x, y] 35)).heap.size (w1.alloc (.cells #[x, y] 35)) w2 := (Below.refl _ _).drew.trans hb'
  have hz : (w1.alloc (.cells #[x, y] 35)).heap.size = w1.heap.size + 1 := by simp
  have hev : Ev w2 w1.heap.size x y := heapB (heap_alloc_new w1 _) hb
  have hon : Only w1.heap.size w2 ((w2.setCell ⟨w1.heap.size, 0, none⟩ (.int .i64 s)).setCell ⟨w1.heap.size, 1, none⟩ bv) := Only.set (Only.set (Only.refl _ _) 0 _) 1 _
  refine ⟨hev.set2 _ _, hb1.size, (own_bs ho).grown hon (fun _ k hk e => ?_), fun k hk => ?_, ?_⟩
  · have := (ho.lt k hk).1
    injection e with e
    omega
  · have h1 := ho.lt k hk
    have := hb1.size
    have := hon.size
    exact ⟨by omega, by omega⟩
  · exact onlyBelow (bel2M (bel2M hb1 (alloc1B _ _)) hb) hon hb1.size (Nat.le_refl _)
theorem heapG {w w' : World} {k b : Nat} {o : Obj} (h : w.heap[k]? = some o) (hg : w.grownBy w' (some b)) (hne : k ≠ b) : w'.heap[k]? = some o := (hg.block k (Array.getElem?_eq_some_iff.1 h).1 (by intro e; injection e with e; exact hne e)).trans h
theorem heapO {S : Nat → Prop} {w w' : World} {k : Nat} {o : Obj} (h : w.heap[k]? = some o) (ho : Off S w w') (hn : ¬ S k) : w'.heap[k]? = some o := (ho.block k (Array.getElem?_eq_some_iff.1 h).1 hn).trans h
theorem Bth.only {w w' : World} {N g bm g2 b : Nat} {f c : Int} {L : List (Int × List UInt8)} {T : Nat → Prop} (h : Bth w N g bm g2 f c L T) (ho : Only b w w') (hT : ¬ T b) (hg : b ≠ g) (hb : b ≠ bm) : Bth w' N g bm g2 f c L T := by
  obtain ⟨v, E, hd, he⟩ := h.dt
  have hk : ∀ k, k < w.heap.size → k ≠ b → w'.heap[k]? = w.heap[k]? := fun k h1 h2 => ho.block k h1 (by intro e; injection e with e; exact h2 e)
  exact ⟨h.au.keep (hk g h.au.1.lt (Ne.symm hg)) (hk bm h.au.2.lt (Ne.symm hb)), ⟨v, E, hd.keep ho.size fun k h1 h2 => hk k h1 (by rintro rfl; exact hT h2), he⟩, h.ng, h.nb, fun k hk => Nat.lt_of_lt_of_le (h.lt k hk) ho.size, h.lo, Nat.le_trans h.low ho.size⟩
theorem Turn.only {w w1 w' : World} {T T1 : Nat → Prop} {bm b : Nat} (h : Turn T bm w w1 T1) (ho : Only b w1 w') (hb : w.heap.size ≤ b) : Turn T bm w w' T1 :=
  ⟨⟨ho.os.trans h.off.os, ho.tape.trans h.off.tape, ho.output.trans h.off.output, Nat.le_trans h.off.size ho.size, fun k hk hn => (ho.block k (Nat.lt_of_lt_of_le hk h.off.size) (by intro e; injection e with e; omega)).trans (h.off.block k hk hn)⟩, h.new⟩
theorem said_end {N g bm g2 : Nat} {f c : Int} {s : Int} {l : List UInt8} {L' : List (Int × List UInt8)} {T T1 : Nat → Prop} {w w0 wx w9 : World} {bv : Value} {b K : Nat} (hK : K ≤ wx.heap.size) (h : Bth wx N g bm g2 f c L' T1) (ht : Turn T bm w wx T1) (hs : Bs wx bv l) (hn : ∀ k, bv.ownBlock = some k → w0.heap.size ≤ k ∧ k < K)
    (hoff : ∀ k, bv.ownBlock = some k → ¬ T1 k ∧ k ≠ bm) (hb : w.heap.size ≤ b) (hb0 : b < w0.heap.size) (hT : ¬ T1 b) (hg : b ≠ g) (hbm : b ≠ bm) (ho : Only b wx w9) : SaidP N g bm g2 f c s l L' T w (.returned (agE s bv)) w9 := by
  refine ⟨bv, T1, rfl, ⟨hs.keep ho.size fun hne k hk => ho.block k (Nat.lt_of_lt_of_le (hn k hk).2 hK) (by intro e; injection e with e; have := (hn k hk).1; omega), fun k hk => ?_⟩, h.only ho hT hg hbm, ht.only ho hb⟩
  have h1 := hn k hk
  have h2 := hoff k hk
  exact ⟨by omega, Nat.lt_of_lt_of_le h1.2 (Nat.le_trans hK ho.size), fun h3 => h3.elim h2.1 h2.2⟩
set_option maxHeartbeats 4000000 in
theorem said_any (N g bm g2 : Nat) (f c : Int) (L : List (Int × List UInt8)) (T : Nat → Prop) (s : Int) (sg : Bool) (m : Msg) (P : Plc) (l : List UInt8) (w : World) (h : Bth w N g bm g2 f c L T) (hs : ok64 s) (hl : l.length ≤ 1000000000) (hL : L.length ≤ 1000000000)
    (hE : ∀ W, Below w.heap.size w W → Calls Tryz.prog 85 #[agM m P] W (Puts W l)) :
    Calls Tryz.prog 53 #[.agg #[.pointer (some ⟨g, 0, none⟩), .pointer (some ⟨g2, 0, none⟩)], .agg #[.int .i64 s, .bool sg, .int .i64 m.k, .int .i64 m.v, .int .i64 m.s, .int .i64 m.c, .int .i64 m.t, .string (strB m.d), .slice P.x.1 m.x.length P.x.2, .int .i64 m.r.1, .int .i64 m.r.2, .slice P.b.1 m.b.length P.b.2, .slice P.p.1 m.p.length P.p.2, .slice P.q.1 m.q.length P.q.2]] w (SaidP N g bm g2 f c s l (if sg = true then signT f c s l L else L) T w) := by
  have HEN := Lib.hid hE
  have HBT := Lib.hid h
  obtain ⟨x1, x2, x3⟩ := box2B w #[.pointer (some ⟨g, 0, none⟩), .pointer (some ⟨g2, 0, none⟩)] #[.int .i64 s, .bool sg, .int .i64 m.k, .int .i64 m.v, .int .i64 m.s, .int .i64 m.c, .int .i64 m.t, .string (strB m.d), .slice P.x.1 m.x.length P.x.2, .int .i64 m.r.1, .int .i64 m.r.2, .slice P.b.1 m.b.length P.b.2, .slice P.p.1 m.p.length P.p.2, .slice P.q.1 m.q.length P.q.2] 31 111
  have x4 := heapB x1 (alloc1B _ (.cells #[.int .i64 0, .slice none 0 0] 35))
  have x5 := heapB x2 (alloc1B _ (.cells #[.int .i64 0, .slice none 0 0] 35))
  have x6 := bel2M x3 (alloc1B _ (.cells #[.int .i64 0, .slice none 0 0] 35))
  have x7 := heap_alloc_new ((w.alloc (.cells #[.pointer (some ⟨g, 0, none⟩), .pointer (some ⟨g2, 0, none⟩)] 31)).alloc (.cells #[.int .i64 s, .bool sg, .int .i64 m.k, .int .i64 m.v, .int .i64 m.s, .int .i64 m.c, .int .i64 m.t, .string (strB m.d), .slice P.x.1 m.x.length P.x.2, .int .i64 m.r.1, .int .i64 m.r.2, .slice P.b.1 m.b.length P.b.2, .slice P.p.1 m.p.length P.p.2, .slice P.q.1 m.q.length P.q.2] 111)) (.cells #[.int .i64 0, .slice none 0 0] 35)
  have hz : ((w.alloc (.cells #[.pointer (some ⟨g, 0, none⟩), .pointer (some ⟨g2, 0, none⟩)] 31)).alloc (.cells #[.int .i64 s, .bool sg, .int .i64 m.k, .int .i64 m.v, .int .i64 m.s, .int .i64 m.c, .int .i64 m.t, .string (strB m.d), .slice P.x.1 m.x.length P.x.2, .int .i64 m.r.1, .int .i64 m.r.2, .slice P.b.1 m.b.length P.b.2, .slice P.p.1 m.p.length P.p.2, .slice P.q.1 m.q.length P.q.2] 111)).heap.size = w.heap.size + 2 := by simp
  rw [hz] at x7
  clear hE h x1 x2 x3 hz
  go_enter Tryz.func53, Tryz.ntmps53
  go_upto_region 1 with fail
  generalize hw0 : ((w.alloc _).alloc _).alloc _ = w0 at *
  have HX := Lib.hid x4
  have HY := Lib.hid x5
  have HZ := Lib.hid x7
  have HB := Lib.hid x6
  have HW2 := Lib.hid (Array.getElem?_eq_some_iff.1 x7).1
  clear x4 x5 x6 x7 hw0
  have HK := Lib.hid (show ∀ W, Below w0.heap.size w0 W → SSd w0 (w.heap.size + 1) s m P W from fun W h => ⟨h, cellB (rowCell HY.out 0 _ rfl) h, cellB (rowCell HY.out 2 _ rfl) h, cellB (rowCell HY.out 3 _ rfl) h, cellB (rowCell HY.out 4 _ rfl) h, cellB (rowCell HY.out 5 _ rfl) h, cellB (rowCell HY.out 6 _ rfl) h, cellB (rowCell HY.out 7 _ rfl) h, cellB (rowCell HY.out 8 _ rfl) h, cellB (rowCell HY.out 9 _ rfl) h, cellB (rowCell HY.out 10 _ rfl) h, cellB (rowCell HY.out 11 _ rfl) h, cellB (rowCell HY.out 12 _ rfl) h, cellB (rowCell HY.out 13 _ rfl) h⟩)
  have hkeep : ∀ (W : World) (o : Obj), SSd w0 (w.heap.size + 1) s m P W → SSd w0 (w.heap.size + 1) s m P (W.alloc o) := fun W o h => HK.out (W.alloc o) (h.1.alloc h.1.size o)
  have HS0 := Lib.hid (HK.out w0.drew (Below.refl _ _).drew)
  go_cut [5] from 6 to 11 (fun s5 wx => ∃ b5 bv, s5 = .pointer (some ⟨b5, 0, none⟩) ∧ EnB w0 wx b5 s bv l)
  case first =>
    go_region_held3 (SSd w0 (w.heap.size + 1) s m P) (first | exact HS0.out | exact hkeep _ _ (by assumption) | exact HS2.out | exact HK.out _ (EnB.below (enb_2 (w1 := w0) (s := s) (Below.refl _ _) HO2.out HB2.out))) (first
      | (go_at_call 85; refine (HEN.out (World.drew (World.alloc w0 (.cells #[.int .i64 0, .slice none 0 0] 35))) (bel2M HB.out (And.left (by assumption)))).mono ?_; rintro e w2 ⟨v2, rfl, ho, hb⟩; obtain ⟨A2, c2, rfl⟩ := own_slice ho; obtain ⟨d0, d1, d2, d3, -⟩ := Ev.open (Ev.below (w := World.drew (World.alloc w0 (.cells #[.int .i64 0, .slice none 0 0] 35))) (heap_alloc_new w0 _) hb); have HO2 := Lib.hid ho; have HB2 := Lib.hid hb; have HS2 := Lib.hid (HK.out w2 (bel2M (And.left (by assumption)) hb)); clear ho hb)
      | (go_at_call 85; refine (HEN.out w0.drew (bel2M HB.out (And.left (by assumption)))).mono ?_; rintro e w2 ⟨v2, rfl, ho, hb⟩; obtain ⟨A2, c2, rfl⟩ := own_slice ho; have HO2 := Lib.hid ho; have HB2 := Lib.hid hb; have HS2 := Lib.hid (HK.out w2 (bel2M (And.left (by assumption)) hb)); clear ho hb))
    all_goals go_wp2_with fail
    all_goals go_meet
    all_goals first
      | exact ⟨_, _, rfl, enb_1 (w0 := w0) (Nat.le_refl _) HO2.out HS2.out.1⟩
      | exact ⟨_, _, rfl, enb_2 (w1 := w0) (s := s) (Below.refl _ _) HO2.out HB2.out⟩
  case rest =>
  obtain ⟨b5, bv, rfl, hE⟩ := hcut
  obtain ⟨BA, bn, rfl, -⟩ := hE.bs.open
  have HE := Lib.hid hE
  have HBC := Lib.hid (HBT.out.below (bel2M HB.out hE.below))
  have HWC := Lib.hid (bel2M HB.out hE.below)
  have HXC := Lib.hid (heapB HX.out hE.below)
  have HYC := Lib.hid (heapB HY.out hE.below)
  have HZC := Lib.hid (heapB HZ.out hE.below)
  have HLG := Lib.hid (And.intro HBT.out.au.1.lt HBT.out.au.2.lt)
  have HTL := Lib.hid (show ∀ k, w.heap.size ≤ k → T k → False from fun k hk hT => absurd (HBT.out.lt k hT) (by omega))
  have HB0 := Lib.hid (show w0.heap.size ≤ wc.heap.size from hE.below.size)
  clear hE HS0 hkeep HK HX HY HZ HB HBT HEN
  have c5 := rowCell HYC.out 1 (.bool sg) rfl
  have e0 := rowCell HE.out.ev 0 (.int .i64 s) rfl
  have e1 := rowCell HE.out.ev 1 (.slice BA l.length bn) rfl
  have x0 := rowCell HXC.out 0 (.pointer (some ⟨g, 0, none⟩)) rfl
  cases sg
  · go_wp2_with (first
      | (refine wpList_storeAll rfl 35 _ _ rfl (w.heap.size + 2) _ _ rfl rfl HZC.out rfl (by kernel_rfl) (by kernel_rfl) ?_; intro w9 hz hh ho; have HQ := Lib.hid hh; have HO9 := Lib.hid ho; clear hz hh ho))
    have k0 := rowCell HQ.out 0 (.int .i64 s) rfl
    have k1 := rowCell HQ.out 1 (.slice BA l.length bn) rfl
    refine bodyPost_ret (v := agE s (.slice BA l.length bn)) ?_ rfl ?_
    · simp [results, Tryz.results53, go_sem, k0, k1]
    · exact said_end (w0 := w0) (Nat.le_refl _) HBC.out (Turn.below HWC.out) HE.out.bs HE.out.new (fun k hk0 => have hk := HE.out.new k hk0; ⟨fun h => HTL.out k (by have := HW2.out; have := HLG.out.1; have := HLG.out.2; have := HB0.out; omega) h, by have := HW2.out; have := HLG.out.1; have := HLG.out.2; have := HB0.out; omega⟩) (by have := HW2.out; have := HLG.out.1; have := HLG.out.2; have := HB0.out; omega) HW2.out (fun h => HTL.out _ (by have := HW2.out; have := HLG.out.1; have := HLG.out.2; have := HB0.out; omega) h) (by have := HW2.out; have := HLG.out.1; have := HLG.out.2; have := HB0.out; omega) (by have := HW2.out; have := HLG.out.1; have := HLG.out.2; have := HB0.out; omega) HO9.out
  · go_wp2_with (first
      | (go_at_call 111; go_loud (refine (Sign_any g bm f c s _ l L _ HBC.out.au hs HE.out.bs hl hL).mono ?_; rintro e w4 ⟨v4, rfl, hb4, hn4, ha4, hg4⟩; obtain ⟨⟨v5, E5, hd5, he5⟩, ht4⟩ := HBC.out.mid ha4 hg4; have HA4 := Lib.hid ha4; have HG4 := Lib.hid hg4; have HS4 := Lib.hid hg4.size; have HD5 := Lib.hid hd5; have HE5 := Lib.hid he5; have HX4 := Lib.hid (heapG HXC.out hg4 (by have := HW2.out; have := HLG.out.1; have := HLG.out.2; have := HB0.out; omega)); have HZ4 := Lib.hid (heapG HZC.out hg4 (by have := HW2.out; have := HLG.out.1; have := HLG.out.2; have := HB0.out; omega)); have HV4 := Lib.hid (heapG HE.out.ev hg4 (by have := HLG.out.2; have := HE.out.lo; have := HW2.out; have := HLG.out.1; have := HLG.out.2; have := HB0.out; omega)); have HS5 := Lib.hid (HE.out.bs.keep hg4.size fun _ k hk => hg4.block k (HE.out.new k hk).2 (by intro e; injection e with e; have := (HE.out.new k hk).1; have := HLG.out.2; have := HW2.out; have := HLG.out.1; have := HLG.out.2; have := HB0.out; omega)); have e0 := rowCell HV4.out 0 (.int .i64 s) rfl; have e1 := rowCell HV4.out 1 (.slice BA l.length bn) rfl; have x1 := rowCell HX4.out 1 (.pointer (some ⟨g2, 0, none⟩)) rfl; clear hb4 hn4 ha4 hg4 hd5 he5 ht4))
      | (go_at_call 112; go_loud (refine (rSign_any g2 f c s v5 _ l E5 (fun k => T k ∨ w4.heap.size ≤ k) _ (HD5.out.mono fun k _ hk => .inl hk) hs HS5.out hl (by rw [← pairsT_length, HE5.out]; exact hL) (fun k hk => .inr hk)).mono ?_; rintro e w5 ⟨v6, vf, E6, rfl, hbf, hd6, hp6, ho6, hn6⟩; rw [HE5.out] at hp6; obtain ⟨hB5, hT5⟩ := HBC.out.end' HA4.out HG4.out (Below.refl _ _) hd6 hp6 ho6; have HB5 := Lib.hid hB5; have HT5 := Lib.hid hT5; have HZ5 := Lib.hid (heapO HZ4.out ho6 (fun h => h.elim (HTL.out _ (by have := HW2.out; have := HLG.out.1; have := HLG.out.2; have := HB0.out; omega)) (fun h => by have := HS4.out; have := HB0.out; have := HW2.out; have := HW2.out; have := HLG.out.1; have := HLG.out.2; have := HB0.out; omega))); have HV5 := Lib.hid (heapO HV4.out ho6 (fun h => h.elim (HTL.out _ (by have := HE.out.lo; have := HW2.out; have := HW2.out; have := HLG.out.1; have := HLG.out.2; have := HB0.out; omega)) (fun h => by have := (Array.getElem?_eq_some_iff.1 HV4.out).1; have := HW2.out; have := HLG.out.1; have := HLG.out.2; have := HB0.out; omega))); have HS6 := Lib.hid (HS5.out.keep ho6.size fun hne k hk => ho6.block k (HS5.out.lt hne k hk) (fun h => h.elim (HTL.out _ (by have := (HE.out.new k hk).1; have := HW2.out; have := HW2.out; have := HLG.out.1; have := HLG.out.2; have := HB0.out; omega)) (fun h => by have := HS5.out.lt hne k hk; have := HW2.out; have := HLG.out.1; have := HLG.out.2; have := HB0.out; omega))); have HS7 := Lib.hid ho6.size; have e0 := rowCell HV5.out 0 (.int .i64 s) rfl; have e1 := rowCell HV5.out 1 (.slice BA l.length bn) rfl; clear hbf hd6 hp6 ho6 hn6 hB5 hT5))
      | (refine wpList_storeAll rfl 35 _ _ rfl (w.heap.size + 2) _ _ rfl rfl HZ5.out rfl (by kernel_rfl) (by kernel_rfl) ?_; intro w9 hz hh ho; have HQ := Lib.hid hh; have HO9 := Lib.hid ho; clear hz hh ho))
    have k0 := rowCell HQ.out 0 (.int .i64 s) rfl
    have k1 := rowCell HQ.out 1 (.slice BA l.length bn) rfl
    refine bodyPost_ret (v := agE s (.slice BA l.length bn)) ?_ rfl ?_
    · simp [results, Tryz.results53, go_sem, k0, k1]
    · exact said_end (w0 := w0) (K := wc.heap.size) (Nat.le_trans HS4.out HS7.out) HB5.out ((Turn.below HWC.out).trans HT5.out) HS6.out HE.out.new (fun k hk0 => have hk := HE.out.new k hk0; ⟨fun h => h.1.elim (HTL.out _ (by have := HW2.out; have := HLG.out.1; have := HLG.out.2; have := HB0.out; omega)) (fun h2 => by have := hk.2; have := HS4.out; have := HW2.out; have := HLG.out.1; have := HLG.out.2; have := HB0.out; omega), by have := HW2.out; have := HLG.out.1; have := HLG.out.2; have := HB0.out; omega⟩) (by have := HW2.out; have := HLG.out.1; have := HLG.out.2; have := HB0.out; omega) HW2.out (fun h => h.1.elim (HTL.out _ (by have := HW2.out; have := HLG.out.1; have := HLG.out.2; have := HB0.out; omega)) (fun h2 => by have := HS4.out; have := HB0.out; have := HW2.out; have := HW2.out; have := HLG.out.1; have := HLG.out.2; have := HB0.out; omega)) (by have := HW2.out; have := HLG.out.1; have := HLG.out.2; have := HB0.out; omega) (by have := HW2.out; have := HLG.out.1; have := HLG.out.2; have := HB0.out; omega) HO9.out

theorem Both.bth {w0 W : World} {g bm g2 : Nat} {v : Value} {f c : Int} (h : Both w0 W g bm g2 v f c) : Bth W w0.heap.size g bm g2 f c [] (fun k => (w0.heap.size ≤ k ∧ k ≠ g ∧ k ≠ bm) ∧ k < W.heap.size) :=
  ⟨h.au, ⟨v, [], h.dt.mono fun k hk hT => ⟨hT, hk⟩, rfl⟩, fun hT => hT.1.2.1 rfl, fun hT => hT.1.2.2 rfl, fun k hk => hk.2, ⟨h.at_bm, fun k hk => hk.1.1⟩, h.below.size⟩
theorem Bth.weak {w : World} {N N' g bm g2 : Nat} {f c : Int} {L : List (Int × List UInt8)} {T : Nat → Prop} (h : Bth w N g bm g2 f c L T) (hN : N' ≤ N) : Bth w N' g bm g2 f c L T :=
  ⟨h.au, h.dt, h.ng, h.nb, h.lt, ⟨Nat.le_trans hN h.lo.1, fun k hk => Nat.le_trans hN (h.lo.2 k hk)⟩, Nat.le_trans hN h.low⟩
theorem cells2 {W : World} {b : Nat} {x y : Value} {t : TypeId} (h : W.heap[b]? = some (.cells #[x, y] t (0, 0))) : W.cell? ⟨b, 0, none⟩ = some x ∧ W.cell? ⟨b, 1, none⟩ = some y ∧ W.frozen? ⟨b, 0, none⟩ = false ∧ W.frozen? ⟨b, 1, none⟩ = false :=
  ⟨rowCell h 0 _ rfl, rowCell h 1 _ rfl, by simp [World.frozen?, h], by simp [World.frozen?, h]⟩
theorem set2row {W : World} {b : Nat} {x y : Value} {t : TypeId} (h : W.heap[b]? = some (.cells #[x, y] t (0, 0))) (x' y' : Value) : ((W.setCell ⟨b, 0, none⟩ x').setCell ⟨b, 1, none⟩ y').heap[b]? = some (.cells #[x', y'] t (0, 0)) := by
  simp [World.setCell, Array.getElem?_modify, h]
abbrev SPw (w : World) (a b : Addr) (x y : Value) : World → Prop := fun W => Below w.heap.size w W ∧ W.cell? a = some x ∧ W.cell? b = some y
def BegP (F C : Int) (w : World) (e : Ending) (w' : World) : Prop :=
  ∃ g bm g2 T, e = .returned (.agg #[.pointer (some ⟨g, 0, none⟩), .pointer (some ⟨g2, 0, none⟩)]) ∧ Bth w' w.heap.size g bm g2 (clF F) (clC C) [] T ∧ Below w.heap.size w w'
set_option maxHeartbeats 2000000 in
theorem begun_any (F C : Int) (w : World) : Calls Tryz.prog 14 #[.agg #[.int .i64 F, .int .i64 C]] w (BegP F C w) := by
  obtain ⟨x1, x2, x3⟩ := box2B w #[.int .i64 F, .int .i64 C] #[.pointer none, .pointer none] 23 31
  go_enter Tryz.func14, Tryz.ntmps14
  go_upto_region 1 with fail
  generalize hw0 : (w.alloc _).alloc _ = w0 at *
  have HX := Lib.hid x1
  have HQ := Lib.hid x2
  have HB := Lib.hid x3
  have HLT := Lib.hid (Array.getElem?_eq_some_iff.1 x2).1
  clear x1 x2 x3 hw0
  have HK := Lib.hid (show ∀ W, Below w0.heap.size w0 W → SPw w ⟨w.heap.size, 0, none⟩ ⟨w.heap.size, 1, none⟩ (.int .i64 F) (.int .i64 C) W from fun W h => ⟨bel2M HB.out h, cellB (rowCell HX.out 0 _ rfl) h, cellB (rowCell HX.out 1 _ rfl) h⟩)
  have HD0 := Lib.hid (show Below w0.heap.size w0 w0.drew from (Below.refl _ _).drew)
  have HS0 := Lib.hid (HK.out w0.drew HD0.out)
  go_region_held3 (SPw w ⟨w.heap.size, 0, none⟩ ⟨w.heap.size, 1, none⟩ (.int .i64 F) (.int .i64 C)) (first | exact HS0.out | exact HSA.out | exact HSB.out | exact HSC.out) (first
    | (go_at_call 51; go_loud (refine (New3_any F C _).mono ?_; rintro e wA ⟨g, bm, rfl, hg, hbm, hA, hbA⟩; have HDA := Lib.hid (bel2M HD0.out hbA); have HSA := Lib.hid (HK.out wA HDA.out); have HA := Lib.hid hA; have HBA := Lib.hid hbA; have HG := Lib.hid (And.intro hg hbm); clear hA hbA hg hbm))
    | (go_at_call 52; go_loud (refine (rNew_any F C _).mono ?_; rintro e wB ⟨g2, v, rfl, hg2, hD, hbB⟩; have HDB := Lib.hid (bel2M HDA.out hbB); have HSB := Lib.hid (HK.out wB HDB.out); have HBO := Lib.hid (Both.one (w0 := w0) (Below.refl _ _).drew HG.out.1 HG.out.2 HA.out HBA.out hD hbB); have HQB := Lib.hid (heapB HQ.out HDB.out); obtain ⟨q0, q1, q2, q3⟩ := cells2 HQB.out; have HOB := Lib.hid (Only.set (Only.set (Only.refl (w.heap.size + 1) wB) 0 (.pointer (some ⟨g, 0, none⟩))) 1 (.pointer (some ⟨g2, 0, none⟩))); have HQC := Lib.hid (set2row HQB.out (.pointer (some ⟨g, 0, none⟩)) (.pointer (some ⟨g2, 0, none⟩))); have HSC := Lib.hid (show SPw w ⟨w.heap.size, 0, none⟩ ⟨w.heap.size, 1, none⟩ (.int .i64 F) (.int .i64 C) _ from ⟨onlyBelow HSB.out.1 HOB.out (by omega) (Nat.le_refl _), onlyCell HOB.out HSB.out.2.1 (by simp), onlyCell HOB.out HSB.out.2.2 (by simp)⟩); clear hD hbB hg2)))
  go_wp2
  have k0 := rowCell HQC.out 0 (.pointer (some ⟨g, 0, none⟩)) rfl
  have k1 := rowCell HQC.out 1 (.pointer (some ⟨g2, 0, none⟩)) rfl
  refine bodyPost_ret (v := .agg #[.pointer (some ⟨g, 0, none⟩), .pointer (some ⟨g2, 0, none⟩)]) ?_ rfl ?_
  · simp [results, Tryz.results14, go_sem, k0, k1]
  · have hgl := HBO.out.at_g
    have hbl := HBO.out.at_bm
    have hlt := HLT.out
    exact ⟨g, bm, g2, _, rfl, ((HBO.out.bth).weak (by omega)).only HOB.out (fun hT => by have := hT.1.1; omega) (by omega) (by omega), HSC.out.1⟩

set_option maxHeartbeats 4000000 in
theorem sign_any (N g bm g2 : Nat) (f c : Int) (L : List (Int × List UInt8)) (T : Nat → Prop) (s : Int) (m : Msg) (P : Plc) (l : List UInt8) (w : World) (h : Bth w N g bm g2 f c L T) (hs : ok64 s) (hl : l.length ≤ 1000000000) (hL : L.length ≤ 1000000000)
    (hE : ∀ W, Below w.heap.size w W → Calls Tryz.prog 85 #[agM m P] W (Puts W l)) :
    Calls Tryz.prog 17 #[.agg #[.pointer (some ⟨g, 0, none⟩), .pointer (some ⟨g2, 0, none⟩)], .int .i64 s, agM m P] w (SaidP N g bm g2 f c s l (signT f c s l L) T w) := by
  have HEN := Lib.hid hE
  have HBT := Lib.hid h
  obtain ⟨x1, x2, x3⟩ := box2B w #[.pointer (some ⟨g, 0, none⟩), .pointer (some ⟨g2, 0, none⟩)] #[.int .i64 m.k, .int .i64 m.v, .int .i64 m.s, .int .i64 m.c, .int .i64 m.t, .string (strB m.d), .slice P.x.1 m.x.length P.x.2, .int .i64 m.r.1, .int .i64 m.r.2, .slice P.b.1 m.b.length P.b.2, .slice P.p.1 m.p.length P.p.2, .slice P.q.1 m.q.length P.q.2] 31 46
  have x4 := heapB x1 (alloc1B _ (.cells #[.int .i64 0, .slice none 0 0] 35))
  have x5 := heapB x2 (alloc1B _ (.cells #[.int .i64 0, .slice none 0 0] 35))
  have x6 := bel2M x3 (alloc1B _ (.cells #[.int .i64 0, .slice none 0 0] 35))
  have x7 := heap_alloc_new ((w.alloc (.cells #[.pointer (some ⟨g, 0, none⟩), .pointer (some ⟨g2, 0, none⟩)] 31)).alloc (.cells #[.int .i64 m.k, .int .i64 m.v, .int .i64 m.s, .int .i64 m.c, .int .i64 m.t, .string (strB m.d), .slice P.x.1 m.x.length P.x.2, .int .i64 m.r.1, .int .i64 m.r.2, .slice P.b.1 m.b.length P.b.2, .slice P.p.1 m.p.length P.p.2, .slice P.q.1 m.q.length P.q.2] 46)) (.cells #[.int .i64 0, .slice none 0 0] 35)
  have hz : ((w.alloc (.cells #[.pointer (some ⟨g, 0, none⟩), .pointer (some ⟨g2, 0, none⟩)] 31)).alloc (.cells #[.int .i64 m.k, .int .i64 m.v, .int .i64 m.s, .int .i64 m.c, .int .i64 m.t, .string (strB m.d), .slice P.x.1 m.x.length P.x.2, .int .i64 m.r.1, .int .i64 m.r.2, .slice P.b.1 m.b.length P.b.2, .slice P.p.1 m.p.length P.p.2, .slice P.q.1 m.q.length P.q.2] 46)).heap.size = w.heap.size + 2 := by simp
  rw [hz] at x7
  clear hE h x1 x2 x3 hz
  go_enter Tryz.func17, Tryz.ntmps17
  go_upto_region 1 with fail
  generalize hw0 : ((w.alloc _).alloc _).alloc _ = w0 at *
  have HX := Lib.hid x4
  have HY := Lib.hid x5
  have HZ := Lib.hid x7
  have HB := Lib.hid x6
  have HW2 := Lib.hid (Array.getElem?_eq_some_iff.1 x7).1
  clear x4 x5 x6 x7 hw0
  have HSD := Lib.hid (said_any N g bm g2 f c L T s true m P l w0 (HBT.out.below HB.out) hs hl hL (fun W hW => HEN.out W (bel2M HB.out hW)))
  have HLG := Lib.hid (And.intro HBT.out.au.1.lt HBT.out.au.2.lt)
  have HTL := Lib.hid (show ∀ k, w.heap.size ≤ k → T k → False from fun k hk hT => absurd (HBT.out.lt k hT) (by omega))
  have r0 := rowCell HX.out 0 (.pointer (some ⟨g, 0, none⟩)) rfl
  have r1 := rowCell HX.out 1 (.pointer (some ⟨g2, 0, none⟩)) rfl
  clear HX
  go_wp2_with (first
    | (refine wpList_load_mid rfl 46 _ rfl (w.heap.size + 1) 0 rfl _ _ (heap_all HY.out) Tryz.underlying46 rfl (by kernel_rfl) ?_)
    | (go_at_call 53; go_loud (refine HSD.out.mono ?_; rintro e w5 ⟨bv, T', rfl, hf, hb5, ht5⟩; have HF := Lib.hid hf; obtain ⟨BA, bn, rfl, -⟩ := hf.bs.open; have HB5 := Lib.hid hb5; have HT5 := Lib.hid ht5; have HZ5 := Lib.hid (heapO HZ.out ht5.off (fun h => h.elim (HTL.out _ (by omega)) (fun h => by have := HLG.out.2; omega))); clear hf hb5 ht5))
    | (refine wpList_storeAll rfl 35 _ _ rfl (w.heap.size + 2) _ _ rfl rfl HZ5.out rfl (by kernel_rfl) (by kernel_rfl) ?_; intro w9 hz hh ho; have HQ := Lib.hid hh; have HO9 := Lib.hid ho; clear hz hh ho))
  have k0 := rowCell HQ.out 0 (.int .i64 s) rfl
  have k1 := rowCell HQ.out 1 (.slice BA l.length bn) rfl
  refine bodyPost_ret (v := agE s (.slice BA l.length bn)) ?_ rfl ?_
  · simp [results, Tryz.results17, go_sem, k0, k1]
  · have hw2 := HW2.out
    have hlg := HLG.out
    exact said_end (w0 := w0) (K := w5.heap.size) (Nat.le_refl _) HB5.out ((Turn.below HB.out).trans HT5.out) HF.out.bs (fun k hk => ⟨(HF.out.new k hk).1, (HF.out.new k hk).2.1⟩) (fun k hk => ⟨fun h => (HF.out.new k hk).2.2 (.inl h), fun h => (HF.out.new k hk).2.2 (.inr h)⟩) (by omega) hw2 (fun h => HTL.out _ (by omega) (HT5.out.new _ hw2 h)) (by omega) (by omega) HO9.out

structure Held (T : Nat → Prop) (bm : Nat) (W : World) (b : Nat) (cs : Array Value) (t : TypeId) : Prop where
  at_ : W.heap[b]? = some (.cells cs t (0, 0))
  off : offT T bm b
structure HeldV (T : Nat → Prop) (bm : Nat) (W : World) (v : Value) (l : List UInt8) : Prop where
  bs : Bs W v l
  own : ∀ k, v.ownBlock = some k → k < W.heap.size ∧ offT T bm k
section
variable {T T' : Nat → Prop} {bm b : Nat} {W W' : World} {cs : Array Value} {t : TypeId} {v : Value} {l : List UInt8}
theorem Held.lt (h : Held T bm W b cs t) : b < W.heap.size := (Array.getElem?_eq_some_iff.1 h.at_).1
theorem Held.turn (h : Held T bm W b cs t) (ht : Turn T bm W W' T') : Held T' bm W' b cs t := ⟨(ht.off.block b h.lt h.off).trans h.at_, (ht.keep b h.lt h.off).2⟩
theorem Held.below (h : Held T bm W b cs t) (hb : Below W.heap.size W W') : Held T bm W' b cs t := ⟨heapB h.at_ hb, h.off⟩
theorem Held.only {g : Nat} (h : Held T bm W b cs t) (ho : Only g W W') (hne : b ≠ g) : Held T bm W' b cs t := ⟨onlyHeap ho h.at_ hne, h.off⟩
theorem Bth.fresh {N g g2 : Nat} {f c : Int} {L : List (Int × List UInt8)} {k : Nat} (h : Bth W N g bm g2 f c L T) (hk : W.heap.size ≤ k) : offT T bm k := fun h2 => h2.elim (fun h3 => absurd (h.lt k h3) (by omega)) (fun h3 => by have := h.au.2.lt; omega)
theorem Held.new {N g g2 : Nat} {f c : Int} {L : List (Int × List UInt8)} (h : Bth W N g bm g2 f c L T) : Held T bm (W.alloc (.cells cs t)) W.heap.size cs t := ⟨heap_alloc_new _ _, h.fresh (Nat.le_refl _)⟩
theorem HeldV.turn (h : HeldV T bm W v l) (ht : Turn T bm W W' T') : HeldV T' bm W' v l :=
  ⟨h.bs.keep ht.off.size fun _ k hk => ht.off.block k (h.own k hk).1 (h.own k hk).2, fun k hk => ⟨Nat.lt_of_lt_of_le (h.own k hk).1 ht.off.size, (ht.keep k (h.own k hk).1 (h.own k hk).2).2⟩⟩
theorem HeldV.below (h : HeldV T bm W v l) (hb : Below W.heap.size W W') : HeldV T bm W' v l := ⟨h.bs.below hb (Nat.le_refl _), fun k hk => ⟨Nat.lt_of_lt_of_le (h.own k hk).1 hb.size, (h.own k hk).2⟩⟩
theorem HeldV.only {g : Nat} (h : HeldV T bm W v l) (ho : Only g W W') (hne : ∀ k, v.ownBlock = some k → k ≠ g) : HeldV T bm W' v l :=
  ⟨h.bs.keep ho.size fun _ k hk => ho.block k (h.own k hk).1 (by intro e; injection e with e; exact hne k hk e), fun k hk => ⟨Nat.lt_of_lt_of_le (h.own k hk).1 ho.size, (h.own k hk).2⟩⟩
theorem Fresh.held {w : World} (h : Fresh w W T bm v l) : HeldV T bm W v l := ⟨h.bs, fun k hk => (h.new k hk).2⟩
end
theorem envK_lit {W : World} {b o c : Nat} {l : List (Int × List UInt8)} (hc : l.length ≤ c) (hm : c ≤ maxLen) (hb : b < W.heap.size) (h : ∀ j (hj : j < l.length), EnvP W ⟨b, o + j * 2, none⟩ l[j]) : EnvK W (some ⟨b, o, none⟩) c l :=
  ⟨hc, hm, (by intro h; cases h), fun j hj => ⟨⟨b, o, none⟩, rfl, hb, by rw [Addr.add_lit]; exact h j hj⟩⟩
theorem envK_row {W : World} {b : Nat} {cs : Array Value} {t : TypeId} {c : Nat} {l : List (Int × List UInt8)} (o : Nat) (hh : W.heap[b]? = some (.cells cs t (0, 0))) (hc : l.length ≤ c) (hm : c ≤ 1000)
    (h : ∀ j (hj : j < l.length), cs[o + j * 2]? = some (.int .i64 l[j].1) ∧ ∃ v, cs[o + j * 2 + 1]? = some v ∧ Bs W v l[j].2) : EnvK W (some ⟨b, o, none⟩) c l :=
  envK_lit hc (by unfold maxLen; omega) (Array.getElem?_eq_some_iff.1 hh).1 fun j hj => by
    obtain ⟨h1, v, h2, h3⟩ := h j hj
    exact ⟨rowCell hh _ _ h1, v, rowCell hh _ _ h2, h3⟩

theorem encD_len {m : Msg} (h : SmD m) : (encD m).length ≤ 10000000 := by
  refine Nat.le_trans encD_le ?_
  have hput : putM m = _ := put_eq (shapeM m.k).1 m
  rw [hput]
  simp only [List.length_append]
  have a1 := numP_le (shapeM m.k).1.v m.v
  have a2 := numP_le (shapeM m.k).1.s m.s
  have a3 := numP_le (shapeM m.k).1.c m.c
  have a4 := numP_le (shapeM m.k).1.t m.t
  have a5 := rowP_le (shapeM m.k).1.d m.d
  have a6 := rowP_le (shapeM m.k).1.x m.x
  have a7 := resP_le (shapeM m.k).1.r m.r
  have a8 := lisP_le envW 100012 30 (shapeM m.k).1.b m.b (fun e he => by have := h.b.2 e he; rw [envW_length]; omega) h.b.1
  have a9 := lisP_le envW 100012 30 (shapeM m.k).1.p m.p (fun e he => by have := h.p.2 e he; rw [envW_length]; omega) h.p.1
  have a10 := lisP_le crtW 0 0 (shapeM m.k).1.q m.q (fun e he => by rw [h.q] at he; cases he) (by rw [h.q]; exact Nat.le_refl _)
  have a11 := i8B_length m.k
  have b1 := h.d
  have b2 := h.x
  simp only [List.length_nil]
  omega
theorem sign_sm {W : World} {N g bm g2 : Nat} {f c : Int} {L : List (Int × List UInt8)} {T : Nat → Prop} (h : Bth W N g bm g2 f c L T) (s : Int) (hs : ok64 s) (m : Msg) (P : Plc) (hm : MsgK W m P) (hsm : SmD m) (hL : L.length ≤ 1000000) :
    Calls Tryz.prog 17 #[.agg #[.pointer (some ⟨g, 0, none⟩), .pointer (some ⟨g2, 0, none⟩)], .int .i64 s, agM m P] W (SaidP N g bm g2 f c s (encD m) (signT f c s (encD m) L) T W) :=
  sign_any N g bm g2 f c L T s m P (encD m) W h hs (by have := encD_len hsm; omega) (by omega) fun W' hb => rEncode_any m P W' (hm.below hb) hsm
theorem said_sm {W : World} {N g bm g2 : Nat} {f c : Int} {L : List (Int × List UInt8)} {T : Nat → Prop} (h : Bth W N g bm g2 f c L T) (s : Int) (sg : Bool) (hs : ok64 s) (m : Msg) (P : Plc) (hm : MsgK W m P) (hsm : SmD m) (hL : L.length ≤ 1000000) :
    Calls Tryz.prog 53 #[.agg #[.pointer (some ⟨g, 0, none⟩), .pointer (some ⟨g2, 0, none⟩)], .agg #[.int .i64 s, .bool sg, .int .i64 m.k, .int .i64 m.v, .int .i64 m.s, .int .i64 m.c, .int .i64 m.t, .string (strB m.d), .slice P.x.1 m.x.length P.x.2, .int .i64 m.r.1, .int .i64 m.r.2, .slice P.b.1 m.b.length P.b.2, .slice P.p.1 m.p.length P.p.2, .slice P.q.1 m.q.length P.q.2]] W (SaidP N g bm g2 f c s (encD m) (if sg = true then signT f c s (encD m) L else L) T W) :=
  said_any N g bm g2 f c L T s sg m P (encD m) W h hs (by have := encD_len hsm; omega) (by omega) fun W' hb => rEncode_any m P W' (hm.below hb) hsm

theorem mdP_ok {f p v : Int} (hp : ok64 p) (hv : 0 ≤ v ∧ v < 1073741824) {c : Int} (hf : 0 ≤ f ∧ f ≤ 2 ∧ 0 ≤ c ∧ c ≤ 8) : ok64 (mdP f p v) := by
  unfold mdP
  by_cases h : p < 0
  · rw [if_pos h]
    unfold primE
    rw [if_neg (by omega)]
    have h0 : 0 ≤ f ∧ f ≤ 2 := by omega
    have h1 := Int.emod_nonneg v (show (3 * f + 1) ≠ 0 by omega)
    have h2 := Int.emod_lt_of_pos v (show 0 < 3 * f + 1 by omega)
    unfold ok64
    omega
  · rw [if_neg h]; exact hp
def MadeP (N g bm g2 : Nat) (f c v s p : Int) (vs : List Vt) (L : List (Int × List UInt8)) (T : Nat → Prop) (w : World) (e : Ending) (w' : World) : Prop :=
  ∃ bv A' c' T', e = .returned (.agg #[.int .i64 (mdP f p v), bv, .slice A' vs.length c']) ∧ HeldV T' bm w' bv (encD (mdPre v s)) ∧ RowC (offT T' bm) w' 2 (EnvC (offT T' bm)) A' c' (vs.map (mdV v s)) ∧ Bth w' N g bm g2 f c (mdL f c v s p L vs) T' ∧ Turn T bm w w' T' ∧
    ∃ D xs, w.heap.size ≤ D ∧ w'.ownsRow D 35 2 (.slice A' vs.length c') xs.length (flatE xs) ∧ xs.length = vs.length ∧ (∀ j (hj : j < xs.length) (hj2 : j < vs.length), xs[j].1 = vs[j].s ∧ HeldV T' bm w' xs[j].2 (encD (mdVote v s vs[j]))) ∧
    (∀ kk, bv.ownBlock = some kk → w.heap.size ≤ kk) ∧ (∀ j (hj : j < xs.length) kk, xs[j].2.ownBlock = some kk → w.heap.size ≤ kk) ∧
    ∀ kk, (Value.slice A' vs.length c').ownBlock = some kk → offT T' bm kk
theorem tmod3_lo (a : Int) : -3 < a.tmod 3 := by
  have := Int.lt_tmod_of_pos a (show (0 : Int) < 3 by decide)
  omega
theorem rowC_es {C : Nat → Prop} {w : World} {v : Value} {xs : List (Int × Value)} {l : List (Int × List UInt8)} (h : Es w v xs) (hl : xs.length = l.length)
    (hel : ∀ j (hj : j < xs.length) (hj2 : j < l.length), xs[j].1 = l[j].1 ∧ Bs w xs[j].2 l[j].2 ∧ ∀ kk, xs[j].2.ownBlock = some kk → C kk) (hC : ∀ kk, v.ownBlock = some kk → C kk) : ∃ A c, v = .slice A l.length c ∧ RowC C w 2 (EnvC C) A c l := by
  obtain ⟨A, c, rfl, h1, h2, h3, h4⟩ := h
  refine ⟨A, c, by rw [hl], ⟨by omega, h2, h3, fun j hj => ?_⟩, fun _ ad ha => hC _ (by subst ha; rfl)⟩
  have hj2 : j < xs.length := by omega
  obtain ⟨ad, ha, hlt, hc⟩ := h4 (by intro e; rw [e] at hj2; exact absurd hj2 (Nat.not_lt_zero _))
  obtain ⟨c1, c2⟩ := hc j hj2
  obtain ⟨e1, e2, e3⟩ := hel j hj2 hj
  exact ⟨ad, ha, hlt, by rw [← e1]; exact c1, xs[j].2, c2, e2, fun _ => e3⟩
structure MdI (N g bm g2 : Nat) (f c v s p : Int) (vs : List Vt) (L : List (Int × List UInt8)) (T : Nat → Prop) (w : World) (D B b8 : Nat) (A : Option Addr) (cc : Nat) (v2 : Value) (k : Nat) (vr : Value) (xs : List (Int × Value)) (T' : Nat → Prop) (wr : World) : Prop where
  bt : Bth wr N g bm g2 f c (mdL f c v s p L (vs.take k)) T'
  tn : Turn T bm w wr T'
  hx : Held T' bm wr w.heap.size #[.pointer (some ⟨g, 0, none⟩), .pointer (some ⟨g2, 0, none⟩)] 31
  hc : Held T' bm wr (w.heap.size + 1) #[.int .i64 v, .int .i64 s, .int .i64 p, .slice A vs.length cc] 26
  hz : Held T' bm wr (w.heap.size + 2) #[.int .i64 0, .slice none 0 0, .slice none 0 0] 38
  hm : Held T' bm wr (B + 1) #[.int .i64 2, .int .i64 v, .int .i64 s, .int .i64 0, .int .i64 0, .string (strB mdD), .slice none 0 0, .int .i64 0, .int .i64 0, .slice (some ⟨B, 0, none⟩) 1 1, .slice none 0 0, .slice none 0 0] 46
  hcr : Held T' bm wr b8 #[.int .i64 (mdP f p v), v2, vr] 38
  hv : HeldV T' bm wr v2 (encD (mdPre v s))
  own : wr.ownsRow D 35 2 vr xs.length (flatE xs)
  off : ∀ kk, vr.ownBlock = some kk → offT T' bm kk
  xl : xs.length = k
  el : ∀ j (hj : j < xs.length) (hj2 : j < vs.length), xs[j].1 = vs[j].s ∧ HeldV T' bm wr xs[j].2 (encD (mdVote v s vs[j]))
  dv : ∀ kk, vr.ownBlock = some kk → v2.ownBlock ≠ some kk
  dj : ∀ j (hj : j < xs.length) kk, vr.ownBlock = some kk → xs[j].2.ownBlock ≠ some kk
  l2 : ∀ kk, v2.ownBlock = some kk → w.heap.size + 2 < kk
  lj : ∀ j (hj : j < xs.length) kk, xs[j].2.ownBlock = some kk → w.heap.size + 2 < kk
  n2 : ∀ kk, v2.ownBlock = some kk → kk ≠ b8
  nj : ∀ j (hj : j < xs.length) kk, xs[j].2.ownBlock = some kk → kk ≠ b8
theorem MdI.below {N g bm g2 : Nat} {f c v s p : Int} {vs : List Vt} {L : List (Int × List UInt8)} {T T' : Nat → Prop} {w wr w9 : World} {D B b8 k : Nat} {A : Option Addr} {cc : Nat} {v2 vr : Value} {xs : List (Int × Value)}
    (h : MdI N g bm g2 f c v s p vs L T w D B b8 A cc v2 k vr xs T' wr) (hb : Below wr.heap.size wr w9) : MdI N g bm g2 f c v s p vs L T w D B b8 A cc v2 k vr xs T' w9 :=
  ⟨h.bt.below hb, h.tn.trans (Turn.below hb), h.hx.below hb, h.hc.below hb, h.hz.below hb, h.hm.below hb, h.hcr.below hb, h.hv.below hb, own_belowM h.own hb, h.off, h.xl, fun j hj hj2 => ⟨(h.el j hj hj2).1, (h.el j hj hj2).2.below hb⟩, h.dv, h.dj, h.l2, h.lj, h.n2, h.nj⟩
theorem MdI.turn {N g bm g2 : Nat} {f c v s p : Int} {vs : List Vt} {L : List (Int × List UInt8)} {T T' T2 : Nat → Prop} {w wr w9 : World} {D B b8 k : Nat} {A : Option Addr} {cc : Nat} {v2 vr : Value} {xs : List (Int × Value)}
    (h : MdI N g bm g2 f c v s p vs L T w D B b8 A cc v2 k vr xs T' wr) (ht : Turn T' bm wr w9 T2) (hk : k < vs.length) (hbt : Bth w9 N g bm g2 f c (mdS f c v s (mdL f c v s p L (vs.take k)) vs[k]) T2) :
    Bth w9 N g bm g2 f c (mdL f c v s p L (vs.take (k + 1))) T2 ∧ Turn T bm w w9 T2 ∧ Held T2 bm w9 b8 #[.int .i64 (mdP f p v), v2, vr] 38 ∧ w9.ownsRow D 35 2 vr xs.length (flatE xs) ∧ (∀ kk, vr.ownBlock = some kk → offT T2 bm kk) ∧ (∀ j (hj : j < xs.length) (hj2 : j < vs.length), xs[j].1 = vs[j].s ∧ HeldV T2 bm w9 xs[j].2 (encD (mdVote v s vs[j]))) := by
  rw [mdL_take f c v s p L vs k hk]
  exact ⟨hbt, h.tn.trans ht, h.hcr.turn ht, own_keep h.own fun kk hkk => ht.off.block kk (h.own.lt kk hkk).2 (h.off kk hkk), fun kk hkk => (ht.keep kk (h.own.lt kk hkk).2 (h.off kk hkk)).2, fun j hj hj2 => ⟨(h.el j hj hj2).1, (h.el j hj hj2).2.turn ht⟩⟩
theorem made_end {N g bm g2 : Nat} {f c v s p : Int} {vs : List Vt} {L : List (Int × List UInt8)} {T T' : Nat → Prop} {w wr w9 : World} {D B b8 : Nat} {A : Option Addr} {cc : Nat} {v2 vr : Value} {xs : List (Int × Value)}
    (h : MdI N g bm g2 f c v s p vs L T w D B b8 A cc v2 vs.length vr xs T' wr) (ho : Only (w.heap.size + 2) wr w9) (hg : w.heap.size + 2 ≠ g) (hD : w.heap.size + 2 < D) (hv2 : ∀ kk, v2.ownBlock = some kk → kk ≠ w.heap.size + 2) (hx : ∀ j (hj : j < xs.length) kk, xs[j].2.ownBlock = some kk → kk ≠ w.heap.size + 2) :
    ∃ A9 c9, vr = .slice A9 vs.length c9 ∧ MadeP N g bm g2 f c v s p vs L T w (.returned (.agg #[.int .i64 (mdP f p v), v2, .slice A9 vs.length c9])) w9 := by
  have hoff := h.hz.off
  have hbt := h.bt
  rw [List.take_length] at hbt
  have hvr : ∀ kk, vr.ownBlock = some kk → kk ≠ w.heap.size + 2 := fun kk hk => by have := (h.own.lt kk hk).1; omega
  have hown : w9.ownsRow D 35 2 vr xs.length (flatE xs) := own_keep h.own fun kk hk => ho.block kk (h.own.lt kk hk).2 (by intro e; injection e with e; exact hvr kk hk e)
  obtain ⟨A9, c9, e, hr⟩ := rowC_es (C := offT T' bm) (l := vs.map (mdV v s)) (Es.of_own hown) (by rw [h.xl, List.length_map]) (fun j hj hj2 => by
    rw [List.length_map] at hj2
    obtain ⟨e1, e2⟩ := h.el j hj hj2
    have e3 := e2.only ho (hx j hj)
    rw [List.getElem_map]
    exact ⟨e1, e3.bs, fun kk hk => (e3.own kk hk).2⟩) h.off
  rw [List.length_map] at e
  exact ⟨A9, c9, e, v2, A9, c9, T', rfl, h.hv.only ho hv2, hr, hbt.only ho (fun h2 => hoff (.inl h2)) hg (fun h2 => hoff (.inr h2)), h.tn.only ho (by omega), D, xs, by omega, e ▸ hown, h.xl, fun j hj hj2 => ⟨(h.el j hj hj2).1, (h.el j hj hj2).2.only ho (hx j hj)⟩, fun kk hk => by have := h.l2 kk hk; omega, fun j hj kk hk => by have := h.lj j hj kk hk; omega, fun kk hk => h.off kk (e ▸ hk)⟩
theorem mdL_len (f c v s p : Int) (L : List (Int × List UInt8)) (vs : List Vt) : (mdL f c v s p L vs).length ≤ L.length + 2 + vs.length := by
  have key : ∀ k, k ≤ vs.length → (mdL f c v s p L (vs.take k)).length ≤ L.length + 2 + k := by
    intro k
    induction k with
    | zero =>
      intro _
      have h1 := signT_length f c 1000 mdL1 L
      have h2 := signT_length f c (mdP f p v) (encD (mdPre v s)) (signT f c 1000 mdL1 L)
      show (mdL0 f c v s p L).length ≤ _
      unfold mdL0
      omega
    | succ k ih =>
      intro hk
      rw [mdL_take f c v s p L vs k (by omega)]
      have h1 := ih (by omega)
      unfold mdS
      split
      · have h2 := signT_length f c vs[k].s (encD (mdVote v s vs[k])) (mdL f c v s p L (vs.take k))
        omega
      · omega
  have := key vs.length (Nat.le_refl _)
  rwa [List.take_length] at this
theorem Held.grown {T : Nat → Prop} {bm b : Nat} {W W' : World} {cs : Array Value} {t : TypeId} {row : Option Nat} (h : Held T bm W b cs t) (hg : W.grownBy W' row) (hne : row ≠ some b) : Held T bm W' b cs t := ⟨(hg.block b h.lt (fun e => hne e.symm)).trans h.at_, h.off⟩
theorem made_step {N g bm g2 : Nat} {f c v s p : Int} {vs : List Vt} {L : List (Int × List UInt8)} {T T' T5 : Nat → Prop} {w wy w5 w6 w4 w9 : World} {D B b8 k : Nat} {A : Option Addr} {cc : Nat} {v2 vr v5 v4 : Value} {xs : List (Int × Value)}
    (h : MdI N g bm g2 f c v s p vs L T w D B b8 A cc v2 k vr xs T' wy) (hk : k < vs.length) (hD : b8 < D ∧ w.heap.size + 2 < D ∧ B + 1 < D ∧ g < D ∧ bm < D) (hb8 : w.heap.size + 2 < b8) (hB8 : B + 1 ≠ b8) (hgb : g ≠ b8) (hwy : w.heap.size + 2 < wy.heap.size)
    (hf : Fresh wy w5 T5 bm v5 (encD (mdVote v s vs[k]))) (ht : Turn T' bm wy w5 T5) (hbt : Bth w5 N g bm g2 f c (mdS f c v s (mdL f c v s p L (vs.take k)) vs[k]) T5)
    (h6 : Below w5.heap.size w5 w6) (hown : w4.ownsRow D 35 2 v4 (xs.length + 1) (flatE xs ++ [.int .i64 vs[k].s, v5])) (hg : w6.grownBy w4 vr.ownBlock) (ho4 : v4.ownBlock = vr.ownBlock ∨ v4.ownBlock = some w6.heap.size)
    (h9 : Only b8 w4 w9) (hc9 : w9.heap[b8]? = some (.cells #[.int .i64 (mdP f p v), v2, v4] 38 (0, 0))) :
    MdI N g bm g2 f c v s p vs L T w D B b8 A cc v2 (k + 1) v4 (xs ++ [(vs[k].s, v5)]) T5 w9 := by
  have hwy := h.tn.off.size
  have s5 := ht.off.size
  have s6 := h6.size
  have s4 := hg.size
  have s9 := h9.size
  have hvlt : ∀ kk, vr.ownBlock = some kk → D ≤ kk ∧ kk < wy.heap.size := fun kk hkk => h.own.lt kk hkk
  -- what lies in a block that stays, off the row, off the box, stays
  have keep : ∀ kk, kk < wy.heap.size → offT T' bm kk → vr.ownBlock ≠ some kk → kk ≠ b8 → w9.heap[kk]? = wy.heap[kk]? := fun kk h1 h2 h3 h4 =>
    (((h9.block kk (by omega) (by intro e; injection e with e; exact h4 e)).trans (hg.block kk (by omega) (fun e => h3 e.symm))).trans (h6.block kk (by omega))).trans (ht.off.block kk h1 h2)
  have offk : ∀ kk, kk < wy.heap.size → offT T' bm kk → offT T5 bm kk := fun kk h1 h2 => (ht.keep kk h1 h2).2
  have box : ∀ {b : Nat} {cs : Array Value} {t : TypeId}, Held T' bm wy b cs t → b < D → b ≠ b8 → Held T5 bm w9 b cs t := fun hh hb hne => ⟨(keep _ hh.lt hh.off (fun e => by have := (hvlt _ e).1; omega) hne).trans hh.at_, offk _ hh.lt hh.off⟩
  have row : ∀ {y : Value} {l : List UInt8}, HeldV T' bm wy y l → (∀ kk, vr.ownBlock = some kk → y.ownBlock ≠ some kk) → (∀ kk, y.ownBlock = some kk → kk ≠ b8) → HeldV T5 bm w9 y l := fun hh hd hne =>
    ⟨hh.bs.keep (by omega) fun _ kk hkk => keep kk (hh.own kk hkk).1 (hh.own kk hkk).2 (fun e => hd kk e hkk) (hne kk hkk), fun kk hkk => ⟨by have := (hh.own kk hkk).1; omega, offk kk (hh.own kk hkk).1 (hh.own kk hkk).2⟩⟩
  have hb8lt := h.hcr.lt
  have hb8o := offk b8 hb8lt h.hcr.off
  have h4lt := fun kk hkk => hown.lt kk hkk
  -- from behind said on
  have keep5 : ∀ kk, kk < w5.heap.size → vr.ownBlock ≠ some kk → kk ≠ b8 → w9.heap[kk]? = w5.heap[kk]? := fun kk h1 h3 h4 =>
    ((h9.block kk (by omega) (by intro e; injection e with e; exact h4 e)).trans (hg.block kk (by omega) (fun e => h3 e.symm))).trans (h6.block kk h1)
  have hbl := hbt.au.2.lt
  have hgl := hbt.au.1.lt
  have hsz : w5.heap.size ≤ w9.heap.size := by omega
  have hbm : bm ≠ b8 := fun e => hb8o (.inr e.symm)
  have vrg : ∀ kk, kk < D → vr.ownBlock ≠ some kk := fun kk h1 e => by have := (hvlt kk e).1; omega
  have bt9 : Bth w9 N g bm g2 f c (mdL f c v s p L (vs.take (k + 1))) T5 := by
    rw [mdL_take f c v s p L vs k hk]
    obtain ⟨vd, E, hd, he⟩ := hbt.dt
    refine ⟨hbt.au.keep (keep5 g hgl (vrg g hD.2.2.2.1) hgb) (keep5 bm hbl (vrg bm hD.2.2.2.2) hbm), ⟨vd, E, hd.keep hsz fun kk h1 h2 => keep5 kk h1 (fun e => offk kk (hvlt kk e).2 (h.off kk e) (.inl h2)) (fun e => hb8o (.inl (e ▸ h2))), he⟩, hbt.ng, hbt.nb, fun kk h1 => Nat.lt_of_lt_of_le (hbt.lt kk h1) hsz, hbt.lo, Nat.le_trans hbt.low hsz⟩
  have htt := h.tn.trans ht
  have ho45 := h9
  have tn9 : Turn T bm w w9 T5 := ⟨⟨by rw [h9.os, hg.os, h6.os]; exact htt.off.os, by rw [h9.tape, hg.tape, h6.tape]; exact htt.off.tape, by rw [h9.output, hg.output, h6.output]; exact htt.off.output, by omega, fun kk h1 h2 =>
    (keep kk (by omega) (h.tn.keep kk h1 h2).2 (vrg kk (by omega)) (by omega)).trans (h.tn.off.block kk h1 h2)⟩, htt.new⟩
  have hxl := h.xl
  have v5lt : ∀ kk, v5.ownBlock = some kk → wy.heap.size ≤ kk ∧ kk < w5.heap.size ∧ offT T5 bm kk := hf.new
  have el9 : ∀ kk, v4.ownBlock = some kk → vr.ownBlock = some kk ∨ kk = w6.heap.size := fun kk e => by
    rcases ho4 with h1 | h1
    · exact .inl (h1 ▸ e)
    · rw [h1] at e; injection e with e; exact .inr e.symm
  have v5h : HeldV T5 bm w9 v5 (encD (mdVote v s vs[k])) := ⟨hf.bs.keep hsz fun _ kk e => keep5 kk (v5lt kk e).2.1 (fun e2 => by have := (hvlt kk e2).2; have := (v5lt kk e).1; omega) (fun e2 => by have := (v5lt kk e).1; omega), fun kk e => ⟨by have := (v5lt kk e).2.1; omega, (v5lt kk e).2.2⟩⟩
  have get1 : ∀ j (hj : j < xs.length) (hj2 : j < (xs ++ [(vs[k].s, v5)]).length), (xs ++ [(vs[k].s, v5)])[j] = xs[j] := fun j hj hj2 => List.getElem_append_left hj
  have get2 : ∀ (hj2 : xs.length < (xs ++ [(vs[k].s, v5)]).length), (xs ++ [(vs[k].s, v5)])[xs.length] = (vs[k].s, v5) := fun hj2 => by simp
  have split : ∀ j, j < (xs ++ [(vs[k].s, v5)]).length → j < xs.length ∨ j = xs.length := fun j hj => by rw [List.length_append] at hj; simp only [List.length_cons, List.length_nil] at hj; omega
  have h2lt : ∀ kk, v2.ownBlock = some kk → kk < wy.heap.size := fun kk e => (h.hv.own kk e).1
  have hjlt : ∀ j (hj : j < xs.length) kk, xs[j].2.ownBlock = some kk → kk < wy.heap.size := fun j hj kk e => ((h.el j hj (by omega)).2.own kk e).1
  refine ⟨bt9, tn9, box h.hx (by omega) (by omega), box h.hc (by omega) (by omega), box h.hz (by omega) (by omega), box h.hm (by omega) hB8, ⟨hc9, hb8o⟩, row h.hv h.dv h.n2, ?_, ?_, ?_, ?_, ?_, ?_, h.l2, ?_, h.n2, ?_⟩
  · rw [flatE_snoc, List.length_append]
    exact own_keep hown fun kk e => h9.block kk (h4lt kk e).2 (by intro e2; injection e2 with e2; have := (h4lt kk e).1; omega)
  · intro kk e
    rcases el9 kk e with h1 | h1
    · exact offk kk (hvlt kk h1).2 (h.off kk h1)
    · exact h1 ▸ hbt.fresh s6
  · rw [List.length_append, hxl]; rfl
  · intro j hj hj2
    rcases split j hj with h1 | rfl
    · rw [get1 j h1 hj]
      exact ⟨(h.el j h1 hj2).1, row (h.el j h1 hj2).2 (h.dj j h1) (h.nj j h1)⟩
    · rw [get2 hj]
      subst hxl
      exact ⟨rfl, v5h⟩
  · intro kk e e2
    rcases el9 kk e with h1 | h1
    · exact h.dv kk h1 e2
    · have := h2lt kk e2; omega
  · intro j hj kk e e2
    rcases split j hj with h1 | rfl
    · rw [get1 j h1 hj] at e2
      rcases el9 kk e with h3 | h3
      · exact h.dj j h1 kk h3 e2
      · have := hjlt j h1 kk e2; omega
    · rw [get2 hj] at e2
      have := v5lt kk e2
      rcases el9 kk e with h3 | h3
      · have := hvlt kk h3; omega
      · omega
  · intro j hj kk e
    rcases split j hj with h1 | rfl
    · rw [get1 j h1 hj] at e
      exact h.lj j h1 kk e
    · rw [get2 hj] at e
      have := v5lt kk e
      omega
  · intro j hj kk e
    rcases split j hj with h1 | rfl
    · rw [get1 j h1 hj] at e
      exact h.nj j h1 kk e
    · rw [get2 hj] at e
      have := v5lt kk e
      omega

set_option maxHeartbeats 8000000 in
theorem made_any (N g bm g2 : Nat) (f c : Int) (L : List (Int × List UInt8)) (T : Nat → Prop) (v s p : Int) (vs : List Vt) (A : Option Addr) (cc : Nat) (w : World) (h : Bth w N g bm g2 f c L T) (hv : ∀ W, Below N w W → VtK W A cc vs)
    (hb1 : 0 ≤ v ∧ v < 1073741824) (hb2 : 0 < s ∧ s < 1073741824) (hn : vs.length ≤ 12) (hp : ok64 p) (hs : ∀ x ∈ vs, ok64 x.s) (hL : L.length ≤ 1000) :
    Calls Tryz.prog 15 #[.agg #[.pointer (some ⟨g, 0, none⟩), .pointer (some ⟨g2, 0, none⟩)], .agg #[.int .i64 v, .int .i64 s, .int .i64 p, .slice A vs.length cc]] w (MadeP N g bm g2 f c v s p vs L T w) := by
  obtain ⟨x1, x2, x3⟩ := box2B w #[.pointer (some ⟨g, 0, none⟩), .pointer (some ⟨g2, 0, none⟩)] #[.int .i64 v, .int .i64 s, .int .i64 p, .slice A vs.length cc] 31 26
  have x4 := heapB x1 (alloc1B _ (.cells #[.int .i64 0, .slice none 0 0, .slice none 0 0] 38))
  have x5 := heapB x2 (alloc1B _ (.cells #[.int .i64 0, .slice none 0 0, .slice none 0 0] 38))
  have x6 := bel2M x3 (alloc1B _ (.cells #[.int .i64 0, .slice none 0 0, .slice none 0 0] 38))
  have x7 := heap_alloc_new ((w.alloc (.cells #[.pointer (some ⟨g, 0, none⟩), .pointer (some ⟨g2, 0, none⟩)] 31)).alloc (.cells #[.int .i64 v, .int .i64 s, .int .i64 p, .slice A vs.length cc] 26)) (.cells #[.int .i64 0, .slice none 0 0, .slice none 0 0] 38)
  have hz : ((w.alloc (.cells #[.pointer (some ⟨g, 0, none⟩), .pointer (some ⟨g2, 0, none⟩)] 31)).alloc (.cells #[.int .i64 v, .int .i64 s, .int .i64 p, .slice A vs.length cc] 26)).heap.size = w.heap.size + 2 := by simp
  rw [hz] at x7
  have HF0 := Lib.hid (fun k (hk : w.heap.size ≤ k) => show offT T bm k from h.fresh hk)
  have HBW := Lib.hid h
  have HVT := Lib.hid hv
  have HSG := Lib.hid hs
  clear x1 x2 x3 hz h hv hs
  go_enter Tryz.func15, Tryz.ntmps15
  go_upto_region 1 with fail
  generalize hw0 : ((w.alloc _).alloc _).alloc _ = w0 at *
  have HX := Lib.hid (show Held T bm w0 w.heap.size #[.pointer (some ⟨g, 0, none⟩), .pointer (some ⟨g2, 0, none⟩)] 31 from ⟨x4, HF0.out _ (Nat.le_refl _)⟩)
  have HC := Lib.hid (show Held T bm w0 (w.heap.size + 1) #[.int .i64 v, .int .i64 s, .int .i64 p, .slice A vs.length cc] 26 from ⟨x5, HF0.out _ (by omega)⟩)
  have HZ := Lib.hid (show Held T bm w0 (w.heap.size + 2) #[.int .i64 0, .slice none 0 0, .slice none 0 0] 38 from ⟨x7, HF0.out _ (by omega)⟩)
  have HBT := Lib.hid (HBW.out.below x6)
  have HTN := Lib.hid (show Turn T bm w w0 T from Turn.below x6)
  clear x4 x5 x6 x7 hw0
  have x0 := rowCell HX.out.at_ 0 (.pointer (some ⟨g, 0, none⟩)) rfl
  have x1 := rowCell HX.out.at_ 1 (.pointer (some ⟨g2, 0, none⟩)) rfl
  have HLL := Lib.hid hL
  go_upto_region 2 with (first
    | (go_at_call 17; go_loud (refine (sign_sm HBT.out 1000 (by unfold ok64; omega) mdReq ⟨(none, 0), (none, 0), (none, 0), (none, 0)⟩ ⟨Bs.nil _, RowM.none _ _ _, RowM.none _ _ _, RowM.none _ _ _⟩ mdM1 (by have := HLL.out; omega)).mono ?_; rintro e w2 ⟨v1, T1, rfl, hf, hb, ht⟩; obtain ⟨A1, c1, rfl, -⟩ := hf.bs.open; have HV1 := Lib.hid hf.held; have HX := Lib.hid (HX.out.turn ht); have HC := Lib.hid (HC.out.turn ht); have HZ := Lib.hid (HZ.out.turn ht); have HBT := Lib.hid hb; have HTN := Lib.hid (HTN.out.trans ht); clear hf hb ht)))
  have HE1 := Lib.hid (Held.new (cs := #[.int .i64 1000, .slice A1 (encD mdReq).length c1]) (t := 35) HBT.out)
  have HX := Lib.hid (HX.out.below (alloc1B _ (.cells #[.int .i64 1000, .slice A1 (encD mdReq).length c1] 35)))
  have HC := Lib.hid (HC.out.below (alloc1B _ (.cells #[.int .i64 1000, .slice A1 (encD mdReq).length c1] 35)))
  have HZ := Lib.hid (HZ.out.below (alloc1B _ (.cells #[.int .i64 1000, .slice A1 (encD mdReq).length c1] 35)))
  have HV1 := Lib.hid (HV1.out.below (alloc1B _ (.cells #[.int .i64 1000, .slice A1 (encD mdReq).length c1] 35)))
  have HBT := Lib.hid (HBT.out.below (alloc1B _ (.cells #[.int .i64 1000, .slice A1 (encD mdReq).length c1] 35)))
  have HTN := Lib.hid (HTN.out.trans (Turn.below (alloc1B _ (.cells #[.int .i64 1000, .slice A1 (encD mdReq).length c1] 35))))
  generalize hwn : w2.alloc _ = wB at *
  clear hwn
  clear x0 x1
  have HBL := Lib.hid (show w.heap.size + 2 < wB.heap.size ∧ g < wB.heap.size ∧ w2.heap.size < wB.heap.size from ⟨HZ.out.lt, HBT.out.au.1.lt, HE1.out.lt⟩)
  have HVL := Lib.hid (fun k hk => (HV1.out.own k hk).1)
  have q0 := rowCell HC.out.at_ 0 (.int .i64 v) rfl
  have q1 := rowCell HC.out.at_ 1 (.int .i64 s) rfl
  have q2 := rowCell HC.out.at_ 2 (.int .i64 p) rfl
  have q3 := rowCell HC.out.at_ 3 (.slice A vs.length cc) rfl
  have e0 := rowCell HE1.out.at_ 0 (.int .i64 1000) rfl
  have e1 := rowCell HE1.out.at_ 1 (.slice A1 (encD mdReq).length c1) rfl
  go_upto_region 3 with fail
  have HRW := Lib.hid (Held.new (cs := #[.int .i64 1000, .slice A1 (encD mdReq).length c1]) (t := 35) HBT.out)
  have HX := Lib.hid (HX.out.below (alloc1B _ (.cells #[.int .i64 1000, .slice A1 (encD mdReq).length c1] 35)))
  have HC := Lib.hid (HC.out.below (alloc1B _ (.cells #[.int .i64 1000, .slice A1 (encD mdReq).length c1] 35)))
  have HZ := Lib.hid (HZ.out.below (alloc1B _ (.cells #[.int .i64 1000, .slice A1 (encD mdReq).length c1] 35)))
  have HE1 := Lib.hid (HE1.out.below (alloc1B _ (.cells #[.int .i64 1000, .slice A1 (encD mdReq).length c1] 35)))
  have HV1 := Lib.hid (HV1.out.below (alloc1B _ (.cells #[.int .i64 1000, .slice A1 (encD mdReq).length c1] 35)))
  have HBT := Lib.hid (HBT.out.below (alloc1B _ (.cells #[.int .i64 1000, .slice A1 (encD mdReq).length c1] 35)))
  have HTN := Lib.hid (HTN.out.trans (Turn.below (alloc1B _ (.cells #[.int .i64 1000, .slice A1 (encD mdReq).length c1] 35))))
  have HM := Lib.hid (Held.new (cs := #[.int .i64 2, .int .i64 v, .int .i64 s, .int .i64 0, .int .i64 0, .string ⟨#[]⟩, .slice none 0 0, .int .i64 0, .int .i64 0, .slice (some ⟨wB.heap.size, 0, none⟩) 1 1, .slice none 0 0, .slice none 0 0]) (t := 46) HBT.out)
  have HX := Lib.hid (HX.out.below (alloc1B _ (.cells #[.int .i64 2, .int .i64 v, .int .i64 s, .int .i64 0, .int .i64 0, .string ⟨#[]⟩, .slice none 0 0, .int .i64 0, .int .i64 0, .slice (some ⟨wB.heap.size, 0, none⟩) 1 1, .slice none 0 0, .slice none 0 0] 46)))
  have HC := Lib.hid (HC.out.below (alloc1B _ (.cells #[.int .i64 2, .int .i64 v, .int .i64 s, .int .i64 0, .int .i64 0, .string ⟨#[]⟩, .slice none 0 0, .int .i64 0, .int .i64 0, .slice (some ⟨wB.heap.size, 0, none⟩) 1 1, .slice none 0 0, .slice none 0 0] 46)))
  have HZ := Lib.hid (HZ.out.below (alloc1B _ (.cells #[.int .i64 2, .int .i64 v, .int .i64 s, .int .i64 0, .int .i64 0, .string ⟨#[]⟩, .slice none 0 0, .int .i64 0, .int .i64 0, .slice (some ⟨wB.heap.size, 0, none⟩) 1 1, .slice none 0 0, .slice none 0 0] 46)))
  have HE1 := Lib.hid (HE1.out.below (alloc1B _ (.cells #[.int .i64 2, .int .i64 v, .int .i64 s, .int .i64 0, .int .i64 0, .string ⟨#[]⟩, .slice none 0 0, .int .i64 0, .int .i64 0, .slice (some ⟨wB.heap.size, 0, none⟩) 1 1, .slice none 0 0, .slice none 0 0] 46)))
  have HRW := Lib.hid (HRW.out.below (alloc1B _ (.cells #[.int .i64 2, .int .i64 v, .int .i64 s, .int .i64 0, .int .i64 0, .string ⟨#[]⟩, .slice none 0 0, .int .i64 0, .int .i64 0, .slice (some ⟨wB.heap.size, 0, none⟩) 1 1, .slice none 0 0, .slice none 0 0] 46)))
  have HV1 := Lib.hid (HV1.out.below (alloc1B _ (.cells #[.int .i64 2, .int .i64 v, .int .i64 s, .int .i64 0, .int .i64 0, .string ⟨#[]⟩, .slice none 0 0, .int .i64 0, .int .i64 0, .slice (some ⟨wB.heap.size, 0, none⟩) 1 1, .slice none 0 0, .slice none 0 0] 46)))
  have HBT := Lib.hid (HBT.out.below (alloc1B _ (.cells #[.int .i64 2, .int .i64 v, .int .i64 s, .int .i64 0, .int .i64 0, .string ⟨#[]⟩, .slice none 0 0, .int .i64 0, .int .i64 0, .slice (some ⟨wB.heap.size, 0, none⟩) 1 1, .slice none 0 0, .slice none 0 0] 46)))
  have HTN := Lib.hid (HTN.out.trans (Turn.below (alloc1B _ (.cells #[.int .i64 2, .int .i64 v, .int .i64 s, .int .i64 0, .int .i64 0, .string ⟨#[]⟩, .slice none 0 0, .int .i64 0, .int .i64 0, .slice (some ⟨wB.heap.size, 0, none⟩) 1 1, .slice none 0 0, .slice none 0 0] 46))))
  have hz1 : (wB.alloc (.cells #[.int .i64 1000, .slice A1 (encD mdReq).length c1] 35)).heap.size = wB.heap.size + 1 := by simp
  rw [hz1] at HM
  generalize hwn : (wB.alloc _).alloc _ = wC at *
  clear hwn
  clear hz1 q0 q1 q2 q3 e0 e1
  have m9 := rowCell HM.out.at_ 9 (.slice (some ⟨wB.heap.size, 0, none⟩) 1 1) rfl
  have HEK := Lib.hid (show EnvK wC (some ⟨wB.heap.size, 0, none⟩) 1 [(1000, mdL1)] from envK_row 0 HRW.out.at_ (by simp) (by omega) fun j hj => by
    obtain rfl : j = 0 := by simpa using hj
    exact ⟨rfl, _, rfl, HV1.out.bs⟩)
  go_upto_region 4 with (first
    | (go_at_call 16; go_loud (refine (show Calls _ _ _ wC (Tells mdD wC) from rhBatch_any (some ⟨wB.heap.size, 0, none⟩) 1 [(1000, mdL1)] wC HEK.out ⟨by simp, fun e he => by rw [List.mem_singleton.1 he]; have := mdE1.1; show mdL1.length ≤ _; omega⟩).mono ?_; rintro e w4 ⟨rfl, hb⟩; have HX := Lib.hid (HX.out.below hb); have HC := Lib.hid (HC.out.below hb); have HZ := Lib.hid (HZ.out.below hb); have HE1 := Lib.hid (HE1.out.below hb); have HRW := Lib.hid (HRW.out.below hb); have HM := Lib.hid (HM.out.below hb); have HV1 := Lib.hid (HV1.out.below hb); have HBT := Lib.hid (HBT.out.below hb); have HTN := Lib.hid (HTN.out.trans (Turn.below hb)); have m5 := rowCell HM.out.at_ 5 (.string ⟨#[]⟩) rfl; have f5 : w4.frozen? ⟨wB.heap.size + 1, 5, none⟩ = false := (by have := HM.out.at_; simp [World.frozen?, this]); clear hb)))
  have ho4 : Only (wB.heap.size + 1) w4 (w4.setCell ⟨wB.heap.size + 1, 5, none⟩ (.string (strB mdD))) := (Only.refl _ _).set 5 _
  have HM5 := Lib.hid (show Held T1 bm (w4.setCell ⟨wB.heap.size + 1, 5, none⟩ (.string (strB mdD))) (wB.heap.size + 1) #[.int .i64 2, .int .i64 v, .int .i64 s, .int .i64 0, .int .i64 0, .string (strB mdD), .slice none 0 0, .int .i64 0, .int .i64 0, .slice (some ⟨wB.heap.size, 0, none⟩) 1 1, .slice none 0 0, .slice none 0 0] 46 from ⟨set_at HM.out.at_ 5 _, HM.out.off⟩)
  have HLX := HBL.out
  have HX := Lib.hid (HX.out.only ho4 (by omega))
  have HC := Lib.hid (HC.out.only ho4 (by omega))
  have HZ := Lib.hid (HZ.out.only ho4 (by omega))
  have HE1 := Lib.hid (HE1.out.only ho4 (by omega))
  have HRW := Lib.hid (HRW.out.only ho4 (by omega))
  have HV1 := Lib.hid (HV1.out.only ho4 (fun k hk => by have := HVL.out k hk; omega))
  have HTN := Lib.hid (HTN.out.only ho4 (by omega))
  have HBT := Lib.hid (HBT.out.only ho4 (fun h => HM.out.off (.inl h)) (by omega) (fun h => HM.out.off (.inr h)))
  generalize w4.setCell _ _ = w5 at *
  clear HM HEK m9 m5 f5 ho4 HLX HVL
  have q0 := rowCell HC.out.at_ 0 (.int .i64 v) rfl
  have q1 := rowCell HC.out.at_ 1 (.int .i64 s) rfl
  have q2 := rowCell HC.out.at_ 2 (.int .i64 p) rfl
  have q3 := rowCell HC.out.at_ 3 (.slice A vs.length cc) rfl
  go_upto_if 29 with fail
  go_cut [7] from 29 to 34 (fun s7 wx => s7 = .int .i64 (mdP f p v) ∧ wx = w5)
  case first =>
    obtain ⟨vt, Et, hdt, -⟩ := HBT.out.dt
    have HPR := Lib.hid (rPrimary_any hdt.head v (by unfold ok64; omega))
    have x1 := rowCell HX.out.at_ 1 (.pointer (some ⟨g2, 0, none⟩)) rfl
    clear hdt
    by_cases hp0 : p < 0
    · have HMP := Lib.hid (show mdP f p v = primE f v from if_pos hp0)
      go_wp2_with (go_at_call 18; refine HPR.out.mono ?_; rintro e wj ⟨rfl, hww⟩; rw [hww]; clear hww wj)
      go_meet
      exact ⟨by rw [HMP.out], rfl⟩
    · have HMP := Lib.hid (show mdP f p v = p from if_neg hp0)
      go_wp2_with fail
      go_meet
      exact ⟨by rw [HMP.out], rfl⟩
  case rest =>
  obtain ⟨rfl, rfl⟩ := hcut
  have HP64 := Lib.hid (show ok64 (mdP f p v) from mdP_ok hp hb1 HBT.out.au.1.2)
  have HL1 := Lib.hid (show (signT f c 1000 (encD mdReq) L).length ≤ 1001 from Nat.le_trans (signT_length f c 1000 (encD mdReq) L) (by have := HLL.out; omega))
  have x0 := rowCell HX.out.at_ 0 (.pointer (some ⟨g, 0, none⟩)) rfl
  have x1 := rowCell HX.out.at_ 1 (.pointer (some ⟨g2, 0, none⟩)) rfl
  go_upto_region 8 with (first
    | (go_at_call 17; go_loud (refine (sign_sm HBT.out (mdP f p v) HP64.out (mdPre v s) ⟨(none, 0), (some ⟨wB.heap.size, 0, none⟩, 1), (none, 0), (none, 0)⟩ ⟨Bs.nil _, envK_row 0 HRW.out.at_ (by show (1 : Nat) ≤ 1; omega) (show (1 : Nat) ≤ 1000 by decide) (fun j hj => (by obtain rfl : j = 0 := (by have hj : j < 1 := hj; omega); exact ⟨rfl, _, rfl, HV1.out.bs⟩)), RowM.none _ _ _, RowM.none _ _ _⟩ (mdM2 v s) (by have := HL1.out; omega)).mono ?_; rintro e w6 ⟨v2, T2, rfl, hf, hb, ht⟩; obtain ⟨A2, c2, rfl, -⟩ := hf.bs.open; have HV2 := Lib.hid hf.held; have HF2 := Lib.hid (fun kk hk => (⟨Nat.lt_of_lt_of_le HZ.out.lt (hf.new kk hk).1, (hf.new kk hk).2.1⟩ : w.heap.size + 2 < kk ∧ kk < w6.heap.size)); have HX := Lib.hid (HX.out.turn ht); have HC := Lib.hid (HC.out.turn ht); have HZ := Lib.hid (HZ.out.turn ht); have HE1 := Lib.hid (HE1.out.turn ht); have HRW := Lib.hid (HRW.out.turn ht); have HM5 := Lib.hid (HM5.out.turn ht); have HV1 := Lib.hid (HV1.out.turn ht); have HBT := Lib.hid hb; have HTN := Lib.hid (HTN.out.trans ht); clear hf hb ht))
    | (refine wpList_load_mid rfl 46 _ rfl (wB.heap.size + 1) 0 rfl _ _ (heap_all HM5.out.at_) Tryz.underlying46 rfl (by kernel_rfl) ?_))
  have HCR := Lib.hid (Held.new (cs := #[.int .i64 (mdP f p v), .slice A2 (encD (mdPre v s)).length c2, .slice none 0 0]) (t := 38) HBT.out)
  have HX := Lib.hid (HX.out.below (alloc1B _ (.cells #[.int .i64 (mdP f p v), .slice A2 (encD (mdPre v s)).length c2, .slice none 0 0] 38)))
  have HC := Lib.hid (HC.out.below (alloc1B _ (.cells #[.int .i64 (mdP f p v), .slice A2 (encD (mdPre v s)).length c2, .slice none 0 0] 38)))
  have HZ := Lib.hid (HZ.out.below (alloc1B _ (.cells #[.int .i64 (mdP f p v), .slice A2 (encD (mdPre v s)).length c2, .slice none 0 0] 38)))
  have HE1 := Lib.hid (HE1.out.below (alloc1B _ (.cells #[.int .i64 (mdP f p v), .slice A2 (encD (mdPre v s)).length c2, .slice none 0 0] 38)))
  have HRW := Lib.hid (HRW.out.below (alloc1B _ (.cells #[.int .i64 (mdP f p v), .slice A2 (encD (mdPre v s)).length c2, .slice none 0 0] 38)))
  have HM5 := Lib.hid (HM5.out.below (alloc1B _ (.cells #[.int .i64 (mdP f p v), .slice A2 (encD (mdPre v s)).length c2, .slice none 0 0] 38)))
  have HV1 := Lib.hid (HV1.out.below (alloc1B _ (.cells #[.int .i64 (mdP f p v), .slice A2 (encD (mdPre v s)).length c2, .slice none 0 0] 38)))
  have HV2 := Lib.hid (HV2.out.below (alloc1B _ (.cells #[.int .i64 (mdP f p v), .slice A2 (encD (mdPre v s)).length c2, .slice none 0 0] 38)))
  have HBT := Lib.hid (HBT.out.below (alloc1B _ (.cells #[.int .i64 (mdP f p v), .slice A2 (encD (mdPre v s)).length c2, .slice none 0 0] 38)))
  have HTN := Lib.hid (HTN.out.trans (Turn.below (alloc1B _ (.cells #[.int .i64 (mdP f p v), .slice A2 (encD (mdPre v s)).length c2, .slice none 0 0] 38))))
  generalize hwn : w6.alloc _ = wD at *
  clear hwn
  clear x0 x1 q0 q1 q2 q3
  have HBD := Lib.hid (show w.heap.size + 2 < wD.heap.size ∧ wB.heap.size + 1 < wD.heap.size ∧ w6.heap.size < wD.heap.size from ⟨HZ.out.lt, HM5.out.lt, HCR.out.lt⟩)
  have HI0 := Lib.hid (show MdI N g bm g2 f c v s p vs L T w wD.heap.size wB.heap.size w6.heap.size A cc (.slice A2 (encD (mdPre v s)).length c2) 0 (.slice none 0 0) [] T2 wD from
    ⟨HBT.out, HTN.out, HX.out, HC.out, HZ.out, HM5.out, HCR.out, HV2.out, World.ownsRow_nil _ _ _ _, (by intro kk hk; cases hk), rfl, (fun j hj => absurd hj (Nat.not_lt_zero _)), (fun kk hk => by cases hk), (fun j hj => absurd hj (Nat.not_lt_zero _)), (fun kk hk => (HF2.out kk hk).1), (fun j hj => absurd hj (Nat.not_lt_zero _)), (fun kk hk => by have := (HF2.out kk hk).2; omega), (fun j hj => absurd hj (Nat.not_lt_zero _))⟩)
  clear HX HC HZ HE1 HRW HM5 HCR HV1 HV2 HBT HTN
  go_wp2
  go_loopw [9] (fun i wr => ∃ (k : Nat) (vr : Value) (xs : List (Int × Value)) (T' : Nat → Prop), k ≤ vs.length ∧ i = .int .i64 k ∧ wD.heap.size ≤ wr.heap.size ∧ MdI N g bm g2 f c v s p vs L T w wD.heap.size wB.heap.size w6.heap.size A cc (.slice A2 (encD (mdPre v s)).length c2) k vr xs T' wr) (fun i _ => vs.length - (intOf i).toNat)
  case atStart => exact ⟨0, _, [], T2, Nat.zero_le _, rfl, Nat.le_refl _, HI0.out⟩
  case round =>
    obtain ⟨k, vr, xs, T', hk, rfl, hDs, hI⟩ := hrel
    have HI := Lib.hid hI
    have HDS := Lib.hid hDs
    clear hDs
    have HVK := Lib.hid (HVT.out _ (hI.tn.lowB HBW.out))
    clear hI
    by_cases hlt : k < vs.length
    · have hltI : (k : Int) < (vs.length : Int) := by omega
      have HLT := Lib.hid hlt
      obtain ⟨ad, rfl, hbl, hvt⟩ := HVK.out.2.2.2 k hlt
      obtain ⟨t0, t1, t2, t3, t4, t5⟩ := hvt
      have HX64 := Lib.hid (HSG.out _ (List.getElem_mem hlt))
      have q0 := rowCell HI.out.hc.at_ 0 (.int .i64 v) rfl
      have q1 := rowCell HI.out.hc.at_ 1 (.int .i64 s) rfl
      have q3 := rowCell HI.out.hc.at_ 3 (.slice (some ad) vs.length cc) rfl
      have q5 := rowCell HI.out.hm.at_ 5 (.string (strB mdD)) rfl
      have HMV := Lib.hid (show mdVote v s vs[k] = mdVote v s vs[k] from rfl)
      generalize hxk : vs[k] = x at *
      have hw1 : IntKind.i64.wrap (v + x.v.tmod 3) = v + x.v.tmod 3 := by have h1 := Int.tmod_lt_of_pos x.v (show (0 : Int) < 3 by decide); have h2 := tmod3_lo x.v; rw [IntKind.wrap_i64]; omega
      have hw2 : IntKind.i64.wrap (s + x.q.tmod 3) = s + x.q.tmod 3 := by have h1 := Int.tmod_lt_of_pos x.q (show (0 : Int) < 3 by decide); have h2 := tmod3_lo x.q; rw [IntKind.wrap_i64]; omega
      have HXK := Lib.hid hxk
      clear hbl hxk
      go_upto_region 12 with fail
      have HBX := Lib.hid (Held.new (cs := #[.int .i64 x.s, .int .i64 x.k, .int .i64 x.v, .int .i64 x.q, .bool x.o, .bool x.u]) (t := 108) HI.out.bt)
      have HJ := Lib.hid (HI.out.below (alloc1B wr (.cells #[.int .i64 x.s, .int .i64 x.k, .int .i64 x.v, .int .i64 x.q, .bool x.o, .bool x.u] 108)))
      have HBe := Lib.hid (alloc1B wr (.cells #[.int .i64 x.s, .int .i64 x.k, .int .i64 x.v, .int .i64 x.q, .bool x.o, .bool x.u] 108))
      generalize hwn : wr.alloc _ = wa at *
      have HSz := Lib.hid (show wr.heap.size < wa.heap.size from HBX.out.lt)
      clear hwn t0 t1 t2 t3 t4 t5 q0 q1 q3 q5
      have q0 := rowCell HJ.out.hc.at_ 0 (.int .i64 v) rfl
      have q1 := rowCell HJ.out.hc.at_ 1 (.int .i64 s) rfl
      have q5 := rowCell HJ.out.hm.at_ 5 (.string (strB mdD)) rfl
      have t1 := rowCell HBX.out.at_ 1 (.int .i64 x.k) rfl
      have t2 := rowCell HBX.out.at_ 2 (.int .i64 x.v) rfl
      have t3 := rowCell HBX.out.at_ 3 (.int .i64 x.q) rfl
      go_upto_region 13 with fail
      have HBM := Lib.hid (Held.new (cs := #[.int .i64 x.k, .int .i64 (v + x.v.tmod 3), .int .i64 (s + x.q.tmod 3), .int .i64 0, .int .i64 0, .string (strB mdD), .slice none 0 0, .int .i64 0, .int .i64 0, .slice none 0 0, .slice none 0 0, .slice none 0 0]) (t := 46) HJ.out.bt)
      have HBX := Lib.hid (HBX.out.below (alloc1B wa (.cells #[.int .i64 x.k, .int .i64 (v + x.v.tmod 3), .int .i64 (s + x.q.tmod 3), .int .i64 0, .int .i64 0, .string (strB mdD), .slice none 0 0, .int .i64 0, .int .i64 0, .slice none 0 0, .slice none 0 0, .slice none 0 0] 46)))
      have HJ := Lib.hid (HJ.out.below (alloc1B wa (.cells #[.int .i64 x.k, .int .i64 (v + x.v.tmod 3), .int .i64 (s + x.q.tmod 3), .int .i64 0, .int .i64 0, .string (strB mdD), .slice none 0 0, .int .i64 0, .int .i64 0, .slice none 0 0, .slice none 0 0, .slice none 0 0] 46)))
      have HBe := Lib.hid (bel2M HBe.out (alloc1B wa (.cells #[.int .i64 x.k, .int .i64 (v + x.v.tmod 3), .int .i64 (s + x.q.tmod 3), .int .i64 0, .int .i64 0, .string (strB mdD), .slice none 0 0, .int .i64 0, .int .i64 0, .slice none 0 0, .slice none 0 0, .slice none 0 0] 46)))
      generalize hwn : wa.alloc _ = wb at *
      clear hwn q0 q1 q5 t1 t2 t3
      clear HJ
      have t4 := rowCell HBX.out.at_ 4 (.bool x.o) rfl
      have t5 := rowCell HBM.out.at_ 5 (.string (strB mdD)) rfl
      have f5 : wb.frozen? ⟨wa.heap.size, 5, none⟩ = false := (by have := HBM.out.at_; simp [World.frozen?, this])
      generalize Value.agg #[.int .i64 x.s, .int .i64 x.k, .int .i64 x.v, .int .i64 x.q, .bool x.o, .bool x.u] = vag
      go_upto_if 70 with fail
      go_cut [] from 70 to 71 (fun wx => Below wr.heap.size wr wx ∧ Held T' bm wx wr.heap.size #[.int .i64 x.s, .int .i64 x.k, .int .i64 x.v, .int .i64 x.q, .bool x.o, .bool x.u] 108 ∧ Held T' bm wx wa.heap.size #[.int .i64 x.k, .int .i64 (v + x.v.tmod 3), .int .i64 (s + x.q.tmod 3), .int .i64 0, .int .i64 0, .string (strB (if x.o = true then mdOther else mdD)), .slice none 0 0, .int .i64 0, .int .i64 0, .slice none 0 0, .slice none 0 0, .slice none 0 0] 46)
      case first =>
        generalize hbo : x.o = bo at *
        clear hbo
        cases bo
        case true =>
          go_wp2_with fail
          go_meet
          have ho : Only wa.heap.size wb (wb.setCell ⟨wa.heap.size, 5, none⟩ (.string (strB mdOther))) := (Only.refl _ _).set 5 _
          exact ⟨onlyBelow HBe.out ho (Nat.le_of_lt HSz.out) (Nat.le_refl _), HBX.out.only ho (by have := HSz.out; omega), (show Held _ _ _ _ _ _ from ⟨set_at HBM.out.at_ 5 _, HBM.out.off⟩)⟩
        case false =>
          go_wp2_with fail
          go_meet
          exact ⟨HBe.out, HBX.out, HBM.out⟩
      case rest =>
      clear HBe HBX HBM t4 t5 f5
      obtain ⟨hbe, hbx, hbm⟩ := hcut
      have HBe := Lib.hid hbe
      have HBX := Lib.hid hbx
      have HBM := Lib.hid hbm
      clear hbe hbx hbm
      generalize hdg : (if x.o = true then mdOther else mdD) = dg at *
      have HDG := Lib.hid hdg
      clear hdg
      have t1 := rowCell HBX.out.at_ 1 (.int .i64 x.k) rfl
      have m1 := rowCell HBM.out.at_ 1 (.int .i64 (v + x.v.tmod 3)) rfl
      have f1 : wc.frozen? ⟨wa.heap.size, 1, none⟩ = false := (by have := HBM.out.at_; simp [World.frozen?, this])
      go_upto_if 74 with fail
      go_cut [] from 74 to 75 (fun wx => Below wr.heap.size wr wx ∧ Held T' bm wx wr.heap.size #[.int .i64 x.s, .int .i64 x.k, .int .i64 x.v, .int .i64 x.q, .bool x.o, .bool x.u] 108 ∧ Held T' bm wx wa.heap.size #[.int .i64 x.k, .int .i64 (if x.k = 5 then 0 else v + x.v.tmod 3), .int .i64 (s + x.q.tmod 3), .int .i64 0, .int .i64 0, .string (strB dg), .slice none 0 0, .int .i64 0, .int .i64 0, .slice none 0 0, .slice none 0 0, .slice none 0 0] 46)
      case first =>
        by_cases hk5 : x.k = 5
        · have hb1 : (x.k == 5) = true := by rw [hk5]; rfl
          have hb2 : decide (x.k = 5) = true := by rw [hk5]; rfl
          have hif : (if x.k = 5 then 0 else v + x.v.tmod 3) = 0 := if_pos hk5
          have HIF := Lib.hid hif
          clear hk5 hif
          go_wp2_with fail
          go_meet
          have ho : Only wa.heap.size wc (wc.setCell ⟨wa.heap.size, 1, none⟩ (.int .i64 0)) := (Only.refl _ _).set 1 _
          exact ⟨onlyBelow HBe.out ho (Nat.le_of_lt HSz.out) (Nat.le_refl _), HBX.out.only ho (by have := HSz.out; omega), by rw [HIF.out]; exact ⟨set_at HBM.out.at_ 1 _, HBM.out.off⟩⟩
        · have hb1 : (x.k == 5) = false := by simpa using hk5
          have hb2 : decide (x.k = 5) = false := by simpa using hk5
          have HIF := Lib.hid (show (if x.k = 5 then 0 else v + x.v.tmod 3) = v + x.v.tmod 3 from if_neg hk5)
          clear hk5
          go_wp2_with fail
          go_meet
          exact ⟨HBe.out, HBX.out, by rw [HIF.out]; exact HBM.out⟩
      case rest =>
      clear HBe HBX HBM t1 m1 f1
      obtain ⟨hbe, hbx, hbm⟩ := hcut
      have HBe := Lib.hid hbe
      have HBX := Lib.hid hbx
      have HBM := Lib.hid hbm
      clear hbe hbx hbm
      generalize hvw : (if x.k = 5 then 0 else v + x.v.tmod 3) = vw at *
      have HVW := Lib.hid hvw
      clear hvw
      have HBC := Lib.hid (show Below wr.heap.size wr wc.drew from HBe.out.drew)
      have HVS := Lib.hid (own_slice HI.out.own)
      obtain ⟨AV, cV, rfl⟩ := HVS.out
      clear HVS
      have HIC := Lib.hid (HI.out.below HBC.out)
      have HH := Lib.hid (show Held T' bm wc.drew w.heap.size #[.pointer (some ⟨g, 0, none⟩), .pointer (some ⟨g2, 0, none⟩)] 31 ∧ Held T' bm wc.drew wr.heap.size #[.int .i64 x.s, .int .i64 x.k, .int .i64 x.v, .int .i64 x.q, .bool x.o, .bool x.u] 108 ∧ Held T' bm wc.drew wa.heap.size #[.int .i64 x.k, .int .i64 vw, .int .i64 (s + x.q.tmod 3), .int .i64 0, .int .i64 0, .string (strB dg), .slice none 0 0, .int .i64 0, .int .i64 0, .slice none 0 0, .slice none 0 0, .slice none 0 0] 46 from ⟨HIC.out.hx, ⟨HBX.out.at_, HBX.out.off⟩, ⟨HBM.out.at_, HBM.out.off⟩⟩)
      have HKS := Lib.hid (show ∀ (W : World) (T9 : Nat → Prop), Held T9 bm W w.heap.size #[.pointer (some ⟨g, 0, none⟩), .pointer (some ⟨g2, 0, none⟩)] 31 ∧ Held T9 bm W wr.heap.size #[.int .i64 x.s, .int .i64 x.k, .int .i64 x.v, .int .i64 x.q, .bool x.o, .bool x.u] 108 ∧ Held T9 bm W wa.heap.size #[.int .i64 x.k, .int .i64 vw, .int .i64 (s + x.q.tmod 3), .int .i64 0, .int .i64 0, .string (strB dg), .slice none 0 0, .int .i64 0, .int .i64 0, .slice none 0 0, .slice none 0 0, .slice none 0 0] 46 → (fun W => W.cell? ⟨w.heap.size, 0, none⟩ = some (.pointer (some ⟨g, 0, none⟩)) ∧ W.cell? ⟨w.heap.size, 1, none⟩ = some (.pointer (some ⟨g2, 0, none⟩)) ∧ W.cell? ⟨wr.heap.size, 0, none⟩ = some (.int .i64 x.s) ∧ W.cell? ⟨wr.heap.size, 5, none⟩ = some (.bool x.u) ∧ W.cell? ⟨wa.heap.size, 0, none⟩ = some (.int .i64 x.k) ∧ W.cell? ⟨wa.heap.size, 1, none⟩ = some (.int .i64 vw) ∧ W.cell? ⟨wa.heap.size, 2, none⟩ = some (.int .i64 (s + x.q.tmod 3)) ∧ W.cell? ⟨wa.heap.size, 3, none⟩ = some (.int .i64 0) ∧ W.cell? ⟨wa.heap.size, 4, none⟩ = some (.int .i64 0) ∧ W.cell? ⟨wa.heap.size, 5, none⟩ = some (.string (strB dg)) ∧ W.cell? ⟨wa.heap.size, 6, none⟩ = some (.slice none 0 0) ∧ W.cell? ⟨wa.heap.size, 7, none⟩ = some (.int .i64 0) ∧ W.cell? ⟨wa.heap.size, 8, none⟩ = some (.int .i64 0) ∧ W.cell? ⟨wa.heap.size, 9, none⟩ = some (.slice none 0 0) ∧ W.cell? ⟨wa.heap.size, 10, none⟩ = some (.slice none 0 0) ∧ W.cell? ⟨wa.heap.size, 11, none⟩ = some (.slice none 0 0)) W from fun W T9 h => ⟨rowCell h.1.at_ 0 _ rfl, rowCell h.1.at_ 1 _ rfl, rowCell h.2.1.at_ 0 _ rfl, rowCell h.2.1.at_ 5 _ rfl, rowCell h.2.2.at_ 0 _ rfl, rowCell h.2.2.at_ 1 _ rfl, rowCell h.2.2.at_ 2 _ rfl, rowCell h.2.2.at_ 3 _ rfl, rowCell h.2.2.at_ 4 _ rfl, rowCell h.2.2.at_ 5 _ rfl, rowCell h.2.2.at_ 6 _ rfl, rowCell h.2.2.at_ 7 _ rfl, rowCell h.2.2.at_ 8 _ rfl, rowCell h.2.2.at_ 9 _ rfl, rowCell h.2.2.at_ 10 _ rfl, rowCell h.2.2.at_ 11 _ rfl⟩)
      have k2 := rowCell HIC.out.hcr.at_ 2 (.slice AV xs.length cV) rfl
      have HNE := Lib.hid (show w.heap.size + 2 < w6.heap.size ∧ w6.heap.size < wD.heap.size from ⟨HZ.out.lt, HBD.out.2.2⟩)
      have HEQ := Lib.hid (show (⟨x.k, vw, s + x.q.tmod 3, 0, 0, dg, [], (0, 0), [], [], []⟩ : Msg) = mdVote v s vs[k] from by rw [HXK.out]; unfold mdVote; rw [HVW.out, HDG.out])
      have HSM := Lib.hid (show SmD (⟨x.k, vw, s + x.q.tmod 3, 0, 0, dg, [], (0, 0), [], [], []⟩ : Msg) from HEQ.out ▸ mdM3 v s vs[k])
      have HLN := Lib.hid (show (mdL f c v s p L (vs.take k)).length ≤ 1000000 from by have h1 := mdL_len f c v s p L (vs.take k); rw [List.length_take] at h1; have := hL; omega)
      have HN12 := Lib.hid (show xs.length + 1 ≤ 12 from by have := HI.out.xl; have := HLT.out; omega)
      obtain ⟨i1, hi1, hz1, hsz1, hby1⟩ := info_partsG envinfoB
      clear HBX HBM HBe
      go_upto_region 17 with fail
      refine wp_region_held_drew (S := (fun W => W.cell? ⟨w.heap.size, 0, none⟩ = some (.pointer (some ⟨g, 0, none⟩)) ∧ W.cell? ⟨w.heap.size, 1, none⟩ = some (.pointer (some ⟨g2, 0, none⟩)) ∧ W.cell? ⟨wr.heap.size, 0, none⟩ = some (.int .i64 x.s) ∧ W.cell? ⟨wr.heap.size, 5, none⟩ = some (.bool x.u) ∧ W.cell? ⟨wa.heap.size, 0, none⟩ = some (.int .i64 x.k) ∧ W.cell? ⟨wa.heap.size, 1, none⟩ = some (.int .i64 vw) ∧ W.cell? ⟨wa.heap.size, 2, none⟩ = some (.int .i64 (s + x.q.tmod 3)) ∧ W.cell? ⟨wa.heap.size, 3, none⟩ = some (.int .i64 0) ∧ W.cell? ⟨wa.heap.size, 4, none⟩ = some (.int .i64 0) ∧ W.cell? ⟨wa.heap.size, 5, none⟩ = some (.string (strB dg)) ∧ W.cell? ⟨wa.heap.size, 6, none⟩ = some (.slice none 0 0) ∧ W.cell? ⟨wa.heap.size, 7, none⟩ = some (.int .i64 0) ∧ W.cell? ⟨wa.heap.size, 8, none⟩ = some (.int .i64 0) ∧ W.cell? ⟨wa.heap.size, 9, none⟩ = some (.slice none 0 0) ∧ W.cell? ⟨wa.heap.size, 10, none⟩ = some (.slice none 0 0) ∧ W.cell? ⟨wa.heap.size, 11, none⟩ = some (.slice none 0 0))) (by kernel_rfl) (HKS.out _ _ HH.out) (fun hHeld => ?_)
      refine tk 0 ?_
      (try simp only [Act.put, sA, sB, sC])
      refine tk 2 ?_
      (try simp only [Act.put, sA, sB, sC])
      refine tk 3 ?_
      (try simp only [Act.put, sA, sB, sC])
      refine tk 4 ?_
      (try simp only [Act.put, sA, sB, sC])
      refine tk 5 ?_
      (try simp only [Act.put, sA, sB, sC])
      refine tk 6 ?_
      (try simp only [Act.put, sA, sB, sC])
      refine tk 7 ?_
      (try simp only [Act.put, sA, sB, sC])
      refine tk 8 ?_
      (try simp only [Act.put, sA, sB, sC])
      refine tk 9 ?_
      (try simp only [Act.put, sA, sB, sC])
      refine wpAnyH_ready (rs := [1, 10]) (by kernel_rfl) (by simp) ?_
      refine AllReadyH.cons (o := ?o10) ?g10 (fun K hK => ?j10) (AllReadyH.cons (o := ?o11) ?g11 (fun K hK => ?j11) AllReadyH.nil)
      case g10 => (simp only [gA, gB, gC]; rfl)
      case g11 => (simp only [gA, gB, gC]; rfl)
      ·
       go_simp
       refine hK.out _ _ ?_ (fun hHeld => ?_)
       · (try dsimp only); exact HKS.out _ _ HH.out
       clear hK K
       (try simp only [Act.put, sA, sB, sC])
       refine wpAnyH_ready (rs := [10]) (by kernel_rfl) (by simp) ?_
       refine AllReadyH.cons (o := ?o12) ?g12 (fun K hK => ?j12) AllReadyH.nil
       case g12 => (simp only [gA, gB, gC]; rfl)
       go_simp
       (go_at_call 53; go_loud (refine (said_sm HIC.out.bt x.s (!x.u) HX64.out (⟨x.k, vw, s + x.q.tmod 3, 0, 0, dg, [], (0, 0), [], [], []⟩ : Msg) ⟨(none, 0), (none, 0), (none, 0), (none, 0)⟩ ⟨Bs.nil _, RowM.none _ _ _, RowM.none _ _ _, RowM.none _ _ _⟩ HSM.out HLN.out).mono ?_; rw [HEQ.out]))
       rintro e w5 ⟨v5, T5, rfl, hf, hb, ht⟩
       obtain ⟨A5, c5, rfl, -⟩ := hf.bs.open
       have HF5 := Lib.hid hf
       have HT5 := Lib.hid ht
       have HB5 := Lib.hid hb
       have HH5 := Lib.hid (show Held T5 bm w5 w.heap.size #[.pointer (some ⟨g, 0, none⟩), .pointer (some ⟨g2, 0, none⟩)] 31 ∧ Held T5 bm w5 wr.heap.size #[.int .i64 x.s, .int .i64 x.k, .int .i64 x.v, .int .i64 x.q, .bool x.o, .bool x.u] 108 ∧ Held T5 bm w5 wa.heap.size #[.int .i64 x.k, .int .i64 vw, .int .i64 (s + x.q.tmod 3), .int .i64 0, .int .i64 0, .string (strB dg), .slice none 0 0, .int .i64 0, .int .i64 0, .slice none 0 0, .slice none 0 0, .slice none 0 0] 46 from ⟨HH.out.1.turn ht, HH.out.2.1.turn ht, HH.out.2.2.turn ht⟩)
       have HC5 := Lib.hid (HIC.out.hcr.turn ht)
       have k2 := rowCell HC5.out.at_ 2 (.slice AV xs.length cV) rfl
       have HO5 := Lib.hid (show w5.ownsRow wD.heap.size 35 2 (.slice AV xs.length cV) xs.length (flatE xs) from own_keep HIC.out.own fun kk hkk => ht.off.block kk (HIC.out.own.lt kk hkk).2 (HIC.out.off kk hkk))
       have k3 := rowCell (HC5.out.below (alloc1B w5 (.cells #[.int .i64 x.s, .slice A5 (encD (mdVote v s vs[k])).length c5] 35))).at_ 2 (.slice AV xs.length cV) rfl
       clear hf hb ht
       have HMB := Lib.hid (show Bth w5 N g bm g2 f c (mdS f c v s (mdL f c v s p L (vs.take k)) vs[k]) T5 from by unfold mdS; rw [HXK.out] at HB5 ⊢; exact HB5.out)
       refine hK.out _ _ ?_ (fun hHeld => ?_)
       · (try dsimp only); exact HKS.out _ _ HH5.out
       clear hK K
       (try simp only [Act.put, sA, sB, sC])
       refine wpAnyH_ready (rs := [11]) (by kernel_rfl) (by simp) ?_
       refine AllReadyH.cons (o := ?o13) ?g13 (fun K hK => ?j13) AllReadyH.nil
       case g13 => (simp only [gA, gB, gC]; rfl)
       go_simp
       refine hK.out _ _ ?_ (fun hHeld => ?_)
       · (try dsimp only); exact HKS.out _ _ ⟨HH5.out.1.below (alloc1B w5 (.cells #[.int .i64 x.s, .slice A5 (encD (mdVote v s vs[k])).length c5] 35)), HH5.out.2.1.below (alloc1B w5 (.cells #[.int .i64 x.s, .slice A5 (encD (mdVote v s vs[k])).length c5] 35)), HH5.out.2.2.below (alloc1B w5 (.cells #[.int .i64 x.s, .slice A5 (encD (mdVote v s vs[k])).length c5] 35))⟩
       clear hK K
       (try simp only [Act.put, sA, sB, sC])
       refine wpAnyH_ready (rs := [12]) (by kernel_rfl) (by simp) ?_
       refine AllReadyH.cons (o := ?o14) ?g14 (fun K hK => ?j14) AllReadyH.nil
       case g14 => (simp only [gA, gB, gC]; rfl)
       refine step_append2 rfl (.tmp 77) (.tmp 87) 36 rfl wD.heap.size 35 i1 (.agg #[.int .i64 0, .slice none 0 0]) 32 Tryz.underlying36 hi1 hz1 hsz1 hby1 rfl (.slice AV xs.length cV) xs.length (flatE xs) rfl (own_belowM HO5.out (alloc1B w5 (.cells #[.int .i64 x.s, .slice A5 (encD (mdVote v s vs[k])).length c5] 35))) w5.heap.size (.int .i64 x.s) (.slice A5 (encD (mdVote v s vs[k])).length c5) rfl (rowCell (heap_alloc_new w5 _) 0 _ rfl) (rowCell (heap_alloc_new w5 _) 1 _ rfl) rfl rfl (by have := HN12.out; unfold maxLen; omega) (by have := HN12.out; omega) (by have := HDS.out; have := HT5.out.off.size; have := HBC.out.size; have := (alloc1B w5 (.cells #[.int .i64 x.s, .slice A5 (encD (mdVote v s vs[k])).length c5] 35)).size; omega) ?_
       intro v4 w4 hown4 hg4 ho4
       obtain ⟨A4, c4, rfl⟩ := own_slice hown4
       have HOW4 := Lib.hid (show w4.ownsRow wD.heap.size 35 2 (.slice A4 (xs.length + 1) c4) (xs.length + 1) (flatE xs ++ [.int .i64 vs[k].s, .slice A5 (encD (mdVote v s vs[k])).length c5]) from by have h := hown4; rw [HXK.out] at h ⊢; exact h)
       have HG4 := Lib.hid hg4
       have HR4 := Lib.hid ho4
       have hvr : ∀ b, b < wD.heap.size ∨ wr.heap.size ≤ b → (Value.slice AV xs.length cV).ownBlock ≠ some b := fun b hb e => by have := HI.out.own.lt b e; omega
       have HH4 := Lib.hid (show Held T5 bm w4 w.heap.size #[.pointer (some ⟨g, 0, none⟩), .pointer (some ⟨g2, 0, none⟩)] 31 ∧ Held T5 bm w4 wr.heap.size #[.int .i64 x.s, .int .i64 x.k, .int .i64 x.v, .int .i64 x.q, .bool x.o, .bool x.u] 108 ∧ Held T5 bm w4 wa.heap.size #[.int .i64 x.k, .int .i64 vw, .int .i64 (s + x.q.tmod 3), .int .i64 0, .int .i64 0, .string (strB dg), .slice none 0 0, .int .i64 0, .int .i64 0, .slice none 0 0, .slice none 0 0, .slice none 0 0] 46 from ⟨(HH5.out.1.below (alloc1B w5 (.cells #[.int .i64 x.s, .slice A5 (encD (mdVote v s vs[k])).length c5] 35))).grown hg4 (hvr _ (by have := HNE.out; omega)), (HH5.out.2.1.below (alloc1B w5 (.cells #[.int .i64 x.s, .slice A5 (encD (mdVote v s vs[k])).length c5] 35))).grown hg4 (hvr _ (by omega)), (HH5.out.2.2.below (alloc1B w5 (.cells #[.int .i64 x.s, .slice A5 (encD (mdVote v s vs[k])).length c5] 35))).grown hg4 (hvr _ (by have := HSz.out; omega))⟩)
       have HC4 := Lib.hid ((HC5.out.below (alloc1B w5 (.cells #[.int .i64 x.s, .slice A5 (encD (mdVote v s vs[k])).length c5] 35))).grown hg4 (hvr _ (by have := HNE.out; omega)))
       have m2 := rowCell HC4.out.at_ 2 (.slice AV xs.length cV) rfl
       have f2 : w4.frozen? ⟨w6.heap.size, 2, none⟩ = false := (by have := HC4.out.at_; simp [World.frozen?, this])
       clear hown4 hg4 ho4 hvr
       refine hK.out _ _ ?_ (fun hHeld => ?_)
       · (try dsimp only); exact HKS.out _ _ HH4.out
       clear hK K
       (try simp only [Act.put, sA, sB, sC])
       refine tk 13 ?_
       (try simp only [Act.put, sA, sB, sC])
       refine wpAnyH_ready (rs := [14]) (by kernel_rfl) (by simp) ?_
       refine AllReadyH.cons (o := ?o16) ?g16 (fun K hK => ?j16) AllReadyH.nil
       case g16 => (simp only [gA, gB, gC]; rfl)
       go_simp
       refine hK.out _ _ ?_ (fun hHeld => ?_)
       · (try dsimp only); exact HKS.out _ _ ⟨HH4.out.1.only ((Only.refl w6.heap.size w4).set 2 (.slice A4 (xs.length + 1) c4)) (by have := HNE.out; omega), HH4.out.2.1.only ((Only.refl w6.heap.size w4).set 2 (.slice A4 (xs.length + 1) c4)) (by have := HNE.out; have := HDS.out; omega), HH4.out.2.2.only ((Only.refl w6.heap.size w4).set 2 (.slice A4 (xs.length + 1) c4)) (by have := HNE.out; have := HDS.out; have := HSz.out; omega)⟩
       clear hK K
       (try simp only [Act.put, sA, sB, sC])
       refine wpAnyH_done (by kernel_rfl) ?_ _
       have HNX := Lib.hid (made_step HIC.out HLT.out ⟨HNE.out.2, by have := HNE.out; omega, HBD.out.2.1, by have := HNE.out; have := HBW.out.au.1.lt; omega, by have := HNE.out; have := HBW.out.au.2.lt; omega⟩ HZ.out.lt (Nat.ne_of_lt HM5.out.lt) (by have := HNE.out; have := HBW.out.au.1.lt; omega) HIC.out.hz.lt HF5.out HT5.out HMB.out (alloc1B w5 (.cells #[.int .i64 x.s, .slice A5 (encD (mdVote v s vs[k])).length c5] 35)) HOW4.out HG4.out HR4.out ((Only.refl w6.heap.size w4).set 2 (.slice A4 (xs.length + 1) c4)) (set_at HC4.out.at_ 2 _))
       go_wp2
       go_roundw
       case rel =>
         refine ⟨k + 1, _, _, T5, HLT.out, by go_num, ?_, HNX.out⟩
         have := HDS.out; have := HT5.out.off.size; have := HBC.out.size; have := (alloc1B w5 (.cells #[.int .i64 x.s, .slice A5 (encD (mdVote v s vs[k])).length c5] 35)).size; have := HG4.out.size; have := (((Only.refl w6.heap.size w4).set 2 (.slice A4 (xs.length + 1) c4))).size; omega
       case measure => simp [intOf]; have := HLT.out; omega
      ·
       go_simp
       (go_at_call 53; go_loud (refine (said_sm HIC.out.bt x.s (!x.u) HX64.out (⟨x.k, vw, s + x.q.tmod 3, 0, 0, dg, [], (0, 0), [], [], []⟩ : Msg) ⟨(none, 0), (none, 0), (none, 0), (none, 0)⟩ ⟨Bs.nil _, RowM.none _ _ _, RowM.none _ _ _, RowM.none _ _ _⟩ HSM.out HLN.out).mono ?_; rw [HEQ.out]))
       rintro e w5 ⟨v5, T5, rfl, hf, hb, ht⟩
       obtain ⟨A5, c5, rfl, -⟩ := hf.bs.open
       have HF5 := Lib.hid hf
       have HT5 := Lib.hid ht
       have HB5 := Lib.hid hb
       have HH5 := Lib.hid (show Held T5 bm w5 w.heap.size #[.pointer (some ⟨g, 0, none⟩), .pointer (some ⟨g2, 0, none⟩)] 31 ∧ Held T5 bm w5 wr.heap.size #[.int .i64 x.s, .int .i64 x.k, .int .i64 x.v, .int .i64 x.q, .bool x.o, .bool x.u] 108 ∧ Held T5 bm w5 wa.heap.size #[.int .i64 x.k, .int .i64 vw, .int .i64 (s + x.q.tmod 3), .int .i64 0, .int .i64 0, .string (strB dg), .slice none 0 0, .int .i64 0, .int .i64 0, .slice none 0 0, .slice none 0 0, .slice none 0 0] 46 from ⟨HH.out.1.turn ht, HH.out.2.1.turn ht, HH.out.2.2.turn ht⟩)
       have HC5 := Lib.hid (HIC.out.hcr.turn ht)
       have k2 := rowCell HC5.out.at_ 2 (.slice AV xs.length cV) rfl
       have HO5 := Lib.hid (show w5.ownsRow wD.heap.size 35 2 (.slice AV xs.length cV) xs.length (flatE xs) from own_keep HIC.out.own fun kk hkk => ht.off.block kk (HIC.out.own.lt kk hkk).2 (HIC.out.off kk hkk))
       have k3 := rowCell (HC5.out.below (alloc1B w5 (.cells #[.int .i64 x.s, .slice A5 (encD (mdVote v s vs[k])).length c5] 35))).at_ 2 (.slice AV xs.length cV) rfl
       clear hf hb ht
       have HMB := Lib.hid (show Bth w5 N g bm g2 f c (mdS f c v s (mdL f c v s p L (vs.take k)) vs[k]) T5 from by unfold mdS; rw [HXK.out] at HB5 ⊢; exact HB5.out)
       refine hK.out _ _ ?_ (fun hHeld => ?_)
       · (try dsimp only); exact HKS.out _ _ HH5.out
       clear hK K
       (try simp only [Act.put, sA, sB, sC])
       refine wpAnyH_ready (rs := [1, 11]) (by kernel_rfl) (by simp) ?_
       refine AllReadyH.cons (o := ?o17) ?g17 (fun K hK => ?j17) (AllReadyH.cons (o := ?o18) ?g18 (fun K hK => ?j18) AllReadyH.nil)
       case g17 => (simp only [gA, gB, gC]; rfl)
       case g18 => (simp only [gA, gB, gC]; rfl)
       ·
        go_simp
        refine hK.out _ _ ?_ (fun hHeld => ?_)
        · (try dsimp only); exact HKS.out _ _ HH5.out
        clear hK K
        (try simp only [Act.put, sA, sB, sC])
        refine wpAnyH_ready (rs := [11]) (by kernel_rfl) (by simp) ?_
        refine AllReadyH.cons (o := ?o19) ?g19 (fun K hK => ?j19) AllReadyH.nil
        case g19 => (simp only [gA, gB, gC]; rfl)
        go_simp
        refine hK.out _ _ ?_ (fun hHeld => ?_)
        · (try dsimp only); exact HKS.out _ _ ⟨HH5.out.1.below (alloc1B w5 (.cells #[.int .i64 x.s, .slice A5 (encD (mdVote v s vs[k])).length c5] 35)), HH5.out.2.1.below (alloc1B w5 (.cells #[.int .i64 x.s, .slice A5 (encD (mdVote v s vs[k])).length c5] 35)), HH5.out.2.2.below (alloc1B w5 (.cells #[.int .i64 x.s, .slice A5 (encD (mdVote v s vs[k])).length c5] 35))⟩
        clear hK K
        (try simp only [Act.put, sA, sB, sC])
        refine wpAnyH_ready (rs := [12]) (by kernel_rfl) (by simp) ?_
        refine AllReadyH.cons (o := ?o20) ?g20 (fun K hK => ?j20) AllReadyH.nil
        case g20 => (simp only [gA, gB, gC]; rfl)
        refine step_append2 rfl (.tmp 77) (.tmp 87) 36 rfl wD.heap.size 35 i1 (.agg #[.int .i64 0, .slice none 0 0]) 32 Tryz.underlying36 hi1 hz1 hsz1 hby1 rfl (.slice AV xs.length cV) xs.length (flatE xs) rfl (own_belowM HO5.out (alloc1B w5 (.cells #[.int .i64 x.s, .slice A5 (encD (mdVote v s vs[k])).length c5] 35))) w5.heap.size (.int .i64 x.s) (.slice A5 (encD (mdVote v s vs[k])).length c5) rfl (rowCell (heap_alloc_new w5 _) 0 _ rfl) (rowCell (heap_alloc_new w5 _) 1 _ rfl) rfl rfl (by have := HN12.out; unfold maxLen; omega) (by have := HN12.out; omega) (by have := HDS.out; have := HT5.out.off.size; have := HBC.out.size; have := (alloc1B w5 (.cells #[.int .i64 x.s, .slice A5 (encD (mdVote v s vs[k])).length c5] 35)).size; omega) ?_
        intro v4 w4 hown4 hg4 ho4
        obtain ⟨A4, c4, rfl⟩ := own_slice hown4
        have HOW4 := Lib.hid (show w4.ownsRow wD.heap.size 35 2 (.slice A4 (xs.length + 1) c4) (xs.length + 1) (flatE xs ++ [.int .i64 vs[k].s, .slice A5 (encD (mdVote v s vs[k])).length c5]) from by have h := hown4; rw [HXK.out] at h ⊢; exact h)
        have HG4 := Lib.hid hg4
        have HR4 := Lib.hid ho4
        have hvr : ∀ b, b < wD.heap.size ∨ wr.heap.size ≤ b → (Value.slice AV xs.length cV).ownBlock ≠ some b := fun b hb e => by have := HI.out.own.lt b e; omega
        have HH4 := Lib.hid (show Held T5 bm w4 w.heap.size #[.pointer (some ⟨g, 0, none⟩), .pointer (some ⟨g2, 0, none⟩)] 31 ∧ Held T5 bm w4 wr.heap.size #[.int .i64 x.s, .int .i64 x.k, .int .i64 x.v, .int .i64 x.q, .bool x.o, .bool x.u] 108 ∧ Held T5 bm w4 wa.heap.size #[.int .i64 x.k, .int .i64 vw, .int .i64 (s + x.q.tmod 3), .int .i64 0, .int .i64 0, .string (strB dg), .slice none 0 0, .int .i64 0, .int .i64 0, .slice none 0 0, .slice none 0 0, .slice none 0 0] 46 from ⟨(HH5.out.1.below (alloc1B w5 (.cells #[.int .i64 x.s, .slice A5 (encD (mdVote v s vs[k])).length c5] 35))).grown hg4 (hvr _ (by have := HNE.out; omega)), (HH5.out.2.1.below (alloc1B w5 (.cells #[.int .i64 x.s, .slice A5 (encD (mdVote v s vs[k])).length c5] 35))).grown hg4 (hvr _ (by omega)), (HH5.out.2.2.below (alloc1B w5 (.cells #[.int .i64 x.s, .slice A5 (encD (mdVote v s vs[k])).length c5] 35))).grown hg4 (hvr _ (by have := HSz.out; omega))⟩)
        have HC4 := Lib.hid ((HC5.out.below (alloc1B w5 (.cells #[.int .i64 x.s, .slice A5 (encD (mdVote v s vs[k])).length c5] 35))).grown hg4 (hvr _ (by have := HNE.out; omega)))
        have m2 := rowCell HC4.out.at_ 2 (.slice AV xs.length cV) rfl
        have f2 : w4.frozen? ⟨w6.heap.size, 2, none⟩ = false := (by have := HC4.out.at_; simp [World.frozen?, this])
        clear hown4 hg4 ho4 hvr
        refine hK.out _ _ ?_ (fun hHeld => ?_)
        · (try dsimp only); exact HKS.out _ _ HH4.out
        clear hK K
        (try simp only [Act.put, sA, sB, sC])
        refine tk 13 ?_
        (try simp only [Act.put, sA, sB, sC])
        refine wpAnyH_ready (rs := [14]) (by kernel_rfl) (by simp) ?_
        refine AllReadyH.cons (o := ?o22) ?g22 (fun K hK => ?j22) AllReadyH.nil
        case g22 => (simp only [gA, gB, gC]; rfl)
        go_simp
        refine hK.out _ _ ?_ (fun hHeld => ?_)
        · (try dsimp only); exact HKS.out _ _ ⟨HH4.out.1.only ((Only.refl w6.heap.size w4).set 2 (.slice A4 (xs.length + 1) c4)) (by have := HNE.out; omega), HH4.out.2.1.only ((Only.refl w6.heap.size w4).set 2 (.slice A4 (xs.length + 1) c4)) (by have := HNE.out; have := HDS.out; omega), HH4.out.2.2.only ((Only.refl w6.heap.size w4).set 2 (.slice A4 (xs.length + 1) c4)) (by have := HNE.out; have := HDS.out; have := HSz.out; omega)⟩
        clear hK K
        (try simp only [Act.put, sA, sB, sC])
        refine wpAnyH_done (by kernel_rfl) ?_ _
        have HNX := Lib.hid (made_step HIC.out HLT.out ⟨HNE.out.2, by have := HNE.out; omega, HBD.out.2.1, by have := HNE.out; have := HBW.out.au.1.lt; omega, by have := HNE.out; have := HBW.out.au.2.lt; omega⟩ HZ.out.lt (Nat.ne_of_lt HM5.out.lt) (by have := HNE.out; have := HBW.out.au.1.lt; omega) HIC.out.hz.lt HF5.out HT5.out HMB.out (alloc1B w5 (.cells #[.int .i64 x.s, .slice A5 (encD (mdVote v s vs[k])).length c5] 35)) HOW4.out HG4.out HR4.out ((Only.refl w6.heap.size w4).set 2 (.slice A4 (xs.length + 1) c4)) (set_at HC4.out.at_ 2 _))
        go_wp2
        go_roundw
        case rel =>
          refine ⟨k + 1, _, _, T5, HLT.out, by go_num, ?_, HNX.out⟩
          have := HDS.out; have := HT5.out.off.size; have := HBC.out.size; have := (alloc1B w5 (.cells #[.int .i64 x.s, .slice A5 (encD (mdVote v s vs[k])).length c5] 35)).size; have := HG4.out.size; have := (((Only.refl w6.heap.size w4).set 2 (.slice A4 (xs.length + 1) c4))).size; omega
        case measure => simp [intOf]; have := HLT.out; omega
       ·
        go_simp
        refine hK.out _ _ ?_ (fun hHeld => ?_)
        · (try dsimp only); exact HKS.out _ _ ⟨HH5.out.1.below (alloc1B w5 (.cells #[.int .i64 x.s, .slice A5 (encD (mdVote v s vs[k])).length c5] 35)), HH5.out.2.1.below (alloc1B w5 (.cells #[.int .i64 x.s, .slice A5 (encD (mdVote v s vs[k])).length c5] 35)), HH5.out.2.2.below (alloc1B w5 (.cells #[.int .i64 x.s, .slice A5 (encD (mdVote v s vs[k])).length c5] 35))⟩
        clear hK K
        (try simp only [Act.put, sA, sB, sC])
        refine wpAnyH_ready (rs := [1]) (by kernel_rfl) (by simp) ?_
        refine AllReadyH.cons (o := ?o23) ?g23 (fun K hK => ?j23) AllReadyH.nil
        case g23 => (simp only [gA, gB, gC]; rfl)
        go_simp
        refine hK.out _ _ ?_ (fun hHeld => ?_)
        · (try dsimp only); exact HKS.out _ _ ⟨HH5.out.1.below (alloc1B w5 (.cells #[.int .i64 x.s, .slice A5 (encD (mdVote v s vs[k])).length c5] 35)), HH5.out.2.1.below (alloc1B w5 (.cells #[.int .i64 x.s, .slice A5 (encD (mdVote v s vs[k])).length c5] 35)), HH5.out.2.2.below (alloc1B w5 (.cells #[.int .i64 x.s, .slice A5 (encD (mdVote v s vs[k])).length c5] 35))⟩
        clear hK K
        (try simp only [Act.put, sA, sB, sC])
        refine wpAnyH_ready (rs := [12]) (by kernel_rfl) (by simp) ?_
        refine AllReadyH.cons (o := ?o24) ?g24 (fun K hK => ?j24) AllReadyH.nil
        case g24 => (simp only [gA, gB, gC]; rfl)
        refine step_append2 rfl (.tmp 77) (.tmp 87) 36 rfl wD.heap.size 35 i1 (.agg #[.int .i64 0, .slice none 0 0]) 32 Tryz.underlying36 hi1 hz1 hsz1 hby1 rfl (.slice AV xs.length cV) xs.length (flatE xs) rfl (own_belowM HO5.out (alloc1B w5 (.cells #[.int .i64 x.s, .slice A5 (encD (mdVote v s vs[k])).length c5] 35))) w5.heap.size (.int .i64 x.s) (.slice A5 (encD (mdVote v s vs[k])).length c5) rfl (rowCell (heap_alloc_new w5 _) 0 _ rfl) (rowCell (heap_alloc_new w5 _) 1 _ rfl) rfl rfl (by have := HN12.out; unfold maxLen; omega) (by have := HN12.out; omega) (by have := HDS.out; have := HT5.out.off.size; have := HBC.out.size; have := (alloc1B w5 (.cells #[.int .i64 x.s, .slice A5 (encD (mdVote v s vs[k])).length c5] 35)).size; omega) ?_
        intro v4 w4 hown4 hg4 ho4
        obtain ⟨A4, c4, rfl⟩ := own_slice hown4
        have HOW4 := Lib.hid (show w4.ownsRow wD.heap.size 35 2 (.slice A4 (xs.length + 1) c4) (xs.length + 1) (flatE xs ++ [.int .i64 vs[k].s, .slice A5 (encD (mdVote v s vs[k])).length c5]) from by have h := hown4; rw [HXK.out] at h ⊢; exact h)
        have HG4 := Lib.hid hg4
        have HR4 := Lib.hid ho4
        have hvr : ∀ b, b < wD.heap.size ∨ wr.heap.size ≤ b → (Value.slice AV xs.length cV).ownBlock ≠ some b := fun b hb e => by have := HI.out.own.lt b e; omega
        have HH4 := Lib.hid (show Held T5 bm w4 w.heap.size #[.pointer (some ⟨g, 0, none⟩), .pointer (some ⟨g2, 0, none⟩)] 31 ∧ Held T5 bm w4 wr.heap.size #[.int .i64 x.s, .int .i64 x.k, .int .i64 x.v, .int .i64 x.q, .bool x.o, .bool x.u] 108 ∧ Held T5 bm w4 wa.heap.size #[.int .i64 x.k, .int .i64 vw, .int .i64 (s + x.q.tmod 3), .int .i64 0, .int .i64 0, .string (strB dg), .slice none 0 0, .int .i64 0, .int .i64 0, .slice none 0 0, .slice none 0 0, .slice none 0 0] 46 from ⟨(HH5.out.1.below (alloc1B w5 (.cells #[.int .i64 x.s, .slice A5 (encD (mdVote v s vs[k])).length c5] 35))).grown hg4 (hvr _ (by have := HNE.out; omega)), (HH5.out.2.1.below (alloc1B w5 (.cells #[.int .i64 x.s, .slice A5 (encD (mdVote v s vs[k])).length c5] 35))).grown hg4 (hvr _ (by omega)), (HH5.out.2.2.below (alloc1B w5 (.cells #[.int .i64 x.s, .slice A5 (encD (mdVote v s vs[k])).length c5] 35))).grown hg4 (hvr _ (by have := HSz.out; omega))⟩)
        have HC4 := Lib.hid ((HC5.out.below (alloc1B w5 (.cells #[.int .i64 x.s, .slice A5 (encD (mdVote v s vs[k])).length c5] 35))).grown hg4 (hvr _ (by have := HNE.out; omega)))
        have m2 := rowCell HC4.out.at_ 2 (.slice AV xs.length cV) rfl
        have f2 : w4.frozen? ⟨w6.heap.size, 2, none⟩ = false := (by have := HC4.out.at_; simp [World.frozen?, this])
        clear hown4 hg4 ho4 hvr
        refine hK.out _ _ ?_ (fun hHeld => ?_)
        · (try dsimp only); exact HKS.out _ _ HH4.out
        clear hK K
        (try simp only [Act.put, sA, sB, sC])
        refine tk 13 ?_
        (try simp only [Act.put, sA, sB, sC])
        refine wpAnyH_ready (rs := [14]) (by kernel_rfl) (by simp) ?_
        refine AllReadyH.cons (o := ?o26) ?g26 (fun K hK => ?j26) AllReadyH.nil
        case g26 => (simp only [gA, gB, gC]; rfl)
        go_simp
        refine hK.out _ _ ?_ (fun hHeld => ?_)
        · (try dsimp only); exact HKS.out _ _ ⟨HH4.out.1.only ((Only.refl w6.heap.size w4).set 2 (.slice A4 (xs.length + 1) c4)) (by have := HNE.out; omega), HH4.out.2.1.only ((Only.refl w6.heap.size w4).set 2 (.slice A4 (xs.length + 1) c4)) (by have := HNE.out; have := HDS.out; omega), HH4.out.2.2.only ((Only.refl w6.heap.size w4).set 2 (.slice A4 (xs.length + 1) c4)) (by have := HNE.out; have := HDS.out; have := HSz.out; omega)⟩
        clear hK K
        (try simp only [Act.put, sA, sB, sC])
        refine wpAnyH_done (by kernel_rfl) ?_ _
        have HNX := Lib.hid (made_step HIC.out HLT.out ⟨HNE.out.2, by have := HNE.out; omega, HBD.out.2.1, by have := HNE.out; have := HBW.out.au.1.lt; omega, by have := HNE.out; have := HBW.out.au.2.lt; omega⟩ HZ.out.lt (Nat.ne_of_lt HM5.out.lt) (by have := HNE.out; have := HBW.out.au.1.lt; omega) HIC.out.hz.lt HF5.out HT5.out HMB.out (alloc1B w5 (.cells #[.int .i64 x.s, .slice A5 (encD (mdVote v s vs[k])).length c5] 35)) HOW4.out HG4.out HR4.out ((Only.refl w6.heap.size w4).set 2 (.slice A4 (xs.length + 1) c4)) (set_at HC4.out.at_ 2 _))
        go_wp2
        go_roundw
        case rel =>
          refine ⟨k + 1, _, _, T5, HLT.out, by go_num, ?_, HNX.out⟩
          have := HDS.out; have := HT5.out.off.size; have := HBC.out.size; have := (alloc1B w5 (.cells #[.int .i64 x.s, .slice A5 (encD (mdVote v s vs[k])).length c5] 35)).size; have := HG4.out.size; have := (((Only.refl w6.heap.size w4).set 2 (.slice A4 (xs.length + 1) c4))).size; omega
        case measure => simp [intOf]; have := HLT.out; omega
    · obtain rfl : k = vs.length := by omega
      have hltI : ¬ (vs.length : Int) < (vs.length : Int) := by omega
      have q3 := rowCell HI.out.hc.at_ 3 (.slice A vs.length cc) rfl
      obtain ⟨A9, c9, rfl⟩ := own_slice HI.out.own
      rw [HI.out.xl] at HI
      go_wp2_with (first
        | (refine wpList_storeAll rfl 38 _ _ rfl (w.heap.size + 2) _ _ rfl rfl HI.out.hz.at_ rfl (by kernel_rfl) (by kernel_rfl) ?_; intro w9 hz hh ho; have HQ := Lib.hid hh; have HO9 := Lib.hid ho; clear hz hh ho)
        | (refine wpList_load_mid rfl 38 _ rfl w6.heap.size 0 rfl _ _ (heap_all HI.out.hcr.at_) Tryz.underlying38 rfl (by kernel_rfl) ?_))
      have k0 := rowCell HQ.out 0 (.int .i64 (mdP f p v)) rfl
      have k1 := rowCell HQ.out 1 (.slice A2 (encD (mdPre v s)).length c2) rfl
      have k2 := rowCell HQ.out 2 (.slice A9 vs.length c9) rfl
      refine bodyPost_ret (v := .agg #[.int .i64 (mdP f p v), .slice A2 (encD (mdPre v s)).length c2, .slice A9 vs.length c9]) ?_ rfl ?_
      · simp [results, Tryz.results15, go_sem, k0, k1, k2]
      · obtain ⟨A8, c8, e8, h8⟩ := made_end HI.out HO9.out (by have := HBW.out.au.1.lt; omega) HBD.out.1 (fun kk hk => by have := HI.out.l2 kk hk; omega) (fun j hj kk hk => by have := HI.out.lj j hj kk hk; omega)
        injection e8 with e8 _ e9
        rw [e8, e9]
        exact h8

end Go.Proofs.YticfnjihjpgneaaGreat

namespace Go.Proofs.YticfnjihjpgneaaGreat
open Go.RowKit Go.ChangeShapes Go.WideShapes Go.ChangeAt
set_option linter.unusedVariables false
set_option linter.unusedSimpArgs false
set_option maxRecDepth 20000
section
variable {H : Type} {enc : TypeId × Value → H} {W : World} {sp : Nat → Bool} {hd : Bool} {base : Nat} {v : Value} {d : DataW H} {ps : List MemPlace}
end
end Go.Proofs.YticfnjihjpgneaaGreat

namespace Go.Proofs.YticfnjihjpgneaaGreat
open Go.RowKit Go.ChangeShapes Go.WideShapes Go.ChangeAt
set_option linter.unusedVariables false
set_option linter.unusedSimpArgs false
set_option maxRecDepth 20000
section
variable {H : Type} {enc : TypeId × Value → H} {W : World} {sp : Nat → Bool} {hd : Bool} {base : Nat} {v : Value} {d : DataW H} {ps : List MemPlace}
end
end Go.Proofs.YticfnjihjpgneaaGreat

namespace Go.Proofs.YticfnjihjpgneaaGreat
open Go.RowKit Go.ChangeShapes Go.WideShapes Go.ChangeAt
set_option linter.unusedVariables false
set_option maxRecDepth 20000

section
variable {H : Type} {enc : TypeId × Value → H} {W : World} {sp : Nat → Bool} {hd : Bool} {base : Nat} {v : Value} {d : DataW H} {ps : List MemPlace}

theorem open_size (hv : Value.okWide Tryz.prog W .any base 23 v) (h : DataW.Trod enc Tryz.prog W 0 sp hd 23 v d ps) : ∃ F C : Int, v = .agg #[.int .i64 F, .int .i64 C] := by
  obtain ⟨cs, rfl, hsz⟩ := okWide_struct Tryz.underlying23 hv
  obtain ⟨fuel, hf⟩ := h
  obtain ⟨ys, m, -, -, -, hys, hfs⟩ := DataW.trod_struct Tryz.underlying23 hf
  have k0 : Tryz.prog.cellsOf 23 = 2 := by kernel_rfl
  have k1 : Tryz.prog.cellsOf 3 = 1 := by kernel_rfl
  rw [k0] at hsz
  obtain ⟨l⟩ := cs
  match l, hsz with
  | [c0, c1], _ =>
    match ys, hys with
    | [y0, y1], _ =>
      have g0 := hfs 0 _ rfl
      have g1 := hfs 1 _ rfl
      simp [k1, Value.cells] at g0 g1
      obtain ⟨z0, e0, -, -⟩ := DataW.trod_int Tryz.underlying3 g0
      obtain ⟨z1, e1, -, -⟩ := DataW.trod_int Tryz.underlying3 g1
      injection e0 with e0
      injection e1 with e1
      exact ⟨z0, z1, by rw [e0, e1]⟩

end
end Go.Proofs.YticfnjihjpgneaaGreat
