/- Texts on the program that the proof leans on, part 66. -/
import Derived.Test.YtkfahochpnggbaaGreatYcd
import Derived.Test.YtkfahochpnggbaaGreatYbw
import Derived.Test.YtkfahochpnggbaaGreatYbo
import Derived.Test.YtkfahochpnggbaaGreatYab
import Derived.Test.YtkfahochpnggbaaGreatYag
import Derived.Test.YtkfahochpnggbaaGreatYce
set_option linter.unusedVariables false
set_option linter.unusedSimpArgs false

/- Mathematics of ChainTrue: a book whose surveys are right in one world is true in it, and what is told of it holds there. -/
namespace Go.Proofs.YtkfahochpnggbaaGreat.Ch

/-- What each place wears, out of a list. -/
def wearF (l : List Int) : Nat → Int := fun p => l.getD p 0
/-- How thick a section truly is on a day. -/
def trueOn (b : Bk) (th wr : List Int) (d s : Nat) : Int := th.getD s 0 - lost b (wearF wr) s d
/-- All of them. -/
def trueRow (b : Bk) (th wr : List Int) (d : Nat) : List Int := (List.range b.secs.length).map (trueOn b th wr d)
structure Truly (b : Bk) (th wr : List Int) : Prop where
  thn : th.length = b.secs.length
  wrn : wr.length = b.secs.length
  thick : ∀ s, s < b.secs.length → (secAt b s).thick.lo ≤ th.getD s 0 ∧ th.getD s 0 ≤ (secAt b s).thick.hi
  wear : ∀ s, s < b.secs.length → (secAt b s).wear.lo ≤ wr.getD s 0 ∧ wr.getD s 0 ≤ (secAt b s).wear.hi
/-- A survey with another reading, that is right. -/
def RightSv (D : Nat → Nat → Int) (x y : Sv) : Prop := y.sec = x.sec ∧ y.day = x.day ∧ y.err = x.err ∧ 0 ≤ y.read ∧ y.read ≤ 200 ∧ D x.day.toNat x.sec.toNat - x.err ≤ y.read ∧ y.read ≤ D x.day.toNat x.sec.toNat + x.err
structure Rightly (D : Nat → Nat → Int) (l m : List Sv) : Prop where
  len : m.length = l.length
  each : ∀ k (h1 : k < l.length) (h2 : k < m.length), RightSv D l[k] m[k]
/-- A book with these surveys. -/
def withSvs (b : Bk) (m : List Sv) : Bk := { b with svs := m }

theorem wearF_out {b : Bk} {th wr : List Int} (h : Truly b th wr) {q : Nat} (hq : b.secs.length ≤ q) : wearF wr q = 0 := by
  have := h.wrn
  simp only [wearF, List.getD_eq_getElem?_getD]
  rw [List.getElem?_eq_none (by omega)]
  rfl
theorem wearF_bd {b : Bk} (hv : valid b = true) {th wr : List Int} (h : Truly b th wr) : ∀ p, p < 4 → 0 ≤ wearF wr p ∧ wearF wr p ≤ worst b.secs := by
  intro p _
  have hw := worst_le b.secs (by simp only [valid, Bool.and_eq_true] at hv; exact hv.1.1.1.2)
  by_cases hp : p < b.secs.length
  · have h1 := h.wear p hp
    have h2 := sec_facts hv hp
    have h3 := worst_ge b.secs (secAt_mem hp)
    show 0 ≤ wr.getD p 0 ∧ wr.getD p 0 ≤ _
    omega
  · rw [wearF_out h (by omega)]
    omega
/-- It is from 0 to 200 thick. -/
theorem true_bd {b : Bk} (hv : valid b = true) {th wr : List Int} (h : Truly b th wr) {s d : Nat} (hs : s < b.secs.length) (hd : (d : Int) ≤ b.days) : 0 ≤ trueOn b th wr d s ∧ trueOn b th wr d s ≤ 200 := by
  have hn := secs_le hv
  have hw := wearF_bd hv h
  have h1 := lost_nonneg b s d fun p hp => (hw p hp).1
  have h2 := lost_le b hs hn.2 d fun p hp => (hw p hp).2
  have h3 := lasts_at hv hs
  have h4 := sec_facts hv hs
  have h5 := h.thick s hs
  have hwo := worst_le b.secs (by simp only [valid, Bool.and_eq_true] at hv; exact hv.1.1.1.2)
  have h8 := Int.mul_le_mul_of_nonneg_right hd hwo.1
  simp only [trueOn]
  omega
theorem lain_svs (b : Bk) (m : List Sv) (s : Int) (d p : Nat) : lain (withSvs b m) s d p = lain b s d p := by
  induction d with
  | zero => rfl
  | succ d ih => simp only [lain, ih]; rfl
theorem lost_svs (b : Bk) (m : List Sv) (f : Nat → Int) (s : Int) (d : Nat) : lost (withSvs b m) f s d = lost b f s d := by
  simp only [lost, lain_svs]
theorem svs_valid {b : Bk} (h : valid b = true) {D : Nat → Nat → Int} {m : List Sv} (hm : Rightly D b.svs m) : valid (withSvs b m) = true := by
  simp only [valid, Bool.and_eq_true] at h ⊢
  obtain ⟨⟨⟨⟨h1, h2⟩, h3⟩, h4⟩, h5⟩ := h
  refine ⟨⟨⟨⟨?_, h2⟩, h3⟩, h4⟩, ?_⟩
  · have := hm.len
    simp [sized, bnds, between] at h1 ⊢
    simp only [withSvs]
    omega
  · refine List.all_eq_true.2 fun y hy => ?_
    obtain ⟨k, hk, rfl⟩ := List.mem_iff_getElem.1 hy
    have hk0 : k < m.length := hk
    have hk1 : k < b.svs.length := by have := hm.len; omega
    obtain ⟨e1, e2, e3, e4, e5, -, -⟩ := hm.each k hk1 hk0
    have h6 := List.all_eq_true.1 h5 _ (List.getElem_mem hk1)
    simp only [isSurvey, Bool.and_eq_true] at h6
    obtain ⟨⟨⟨i1, i2⟩, -⟩, i4⟩ := h6
    show isSurvey (withSvs b m) m[k] = true
    simp only [isSurvey, Bool.and_eq_true]
    refine ⟨⟨⟨?_, ?_⟩, ?_⟩, ?_⟩
    · rw [e1]; exact i1
    · rw [e2]; exact i2
    · simp [between]; omega
    · rw [e3]; exact i4
/-- What all surveys of a section allow lets in what they all let in. -/
theorem surveyedL_has (b : Bk) (f : Nat → Int) (s : Int) (c : Int) : ∀ (l : List Sv) (t : Sp), t.lo ≤ c → c ≤ t.hi → (∀ y ∈ l, y.sec = s → (read b f y).lo ≤ c ∧ c ≤ (read b f y).hi) →
    (surveyedL b f s t l).lo ≤ c ∧ c ≤ (surveyedL b f s t l).hi
  | [], t, h1, h2, _ => ⟨h1, h2⟩
  | y :: l, t, h1, h2, h3 => by
    unfold surveyedL
    rw [List.foldl_cons]
    have hr : ∀ z ∈ l, z.sec = s → (read b f z).lo ≤ c ∧ c ≤ (read b f z).hi := fun z hz => h3 z (List.mem_cons_of_mem _ hz)
    split
    · rename_i hy
      have h4 := h3 y (List.mem_cons_self ..) hy
      exact surveyedL_has b f s c l _ (by simp only [meet]; omega) (by simp only [meet]; omega) hr
    · exact surveyedL_has b f s c l _ h1 h2 hr
theorem true_surveyed {b : Bk} (hv : valid b = true) {th wr : List Int} (h : Truly b th wr) {m : List Sv} (hm : Rightly (trueOn b th wr) b.svs m) {s : Nat} (hs : s < b.secs.length) :
    (surveyed (withSvs b m) (wearF wr) s).lo ≤ th.getD s 0 ∧ th.getD s 0 ≤ (surveyed (withSvs b m) (wearF wr) s).hi := by
  have h1 := h.thick s hs
  refine surveyedL_has _ _ _ _ _ _ h1.1 h1.2 fun y hy hys => ?_
  obtain ⟨k, hk, rfl⟩ := List.mem_iff_getElem.1 hy
  have hk0 : k < m.length := hk
  have hk1 : k < b.svs.length := by have := hm.len; omega
  obtain ⟨e1, e2, e3, -, -, e6, e7⟩ := hm.each k hk1 hk0
  have hsk : b.svs[k].sec.toNat = s := by
    have : (m[k]).sec = (s : Int) := hys
    omega
  rw [hsk] at e6 e7
  simp only [trueOn] at e6 e7
  have hsv : ((withSvs b m).svs[k]).sec = (s : Int) := hys
  show (read (withSvs b m) (wearF wr) m[k]).lo ≤ _ ∧ _ ≤ (read (withSvs b m) (wearF wr) m[k]).hi
  have hss : (m[k]).sec = (s : Int) := hys
  simp only [read, lost_svs, hss, e2, e3]
  omega
/-- There is a truth in which it wears so. -/
theorem true_truth {b : Bk} (hv : valid b = true) {th wr : List Int} (h : Truly b th wr) {m : List Sv} (hm : Rightly (trueOn b th wr) b.svs m) :
    ∃ u ∈ truths (withSvs b m), (∀ q, q < b.secs.length → u.wear q = wearF wr q) ∧ ∀ s, s < b.secs.length → (u.first s).lo ≤ th.getD s 0 ∧ th.getD s 0 ≤ (u.first s).hi := by
  obtain ⟨u, hu, hw⟩ := truths_all (withSvs b m) (wearF wr) (fun q hq => h.wear q hq) fun s hs => by
    have := true_surveyed hv h hm (s := s) hs
    simp [isEmpty]
    omega
  refine ⟨u, hu, hw, fun s hs => ?_⟩
  rw [((truths_is hu).first s hs).1, surveyed_congr (withSvs b m) (g := wearF wr) s hs (hw s hs) (hw _ (show b.secs.length - 1 - s < b.secs.length by omega))]
  exact true_surveyed hv h hm hs
theorem true_some {b : Bk} (hv : valid b = true) {th wr : List Int} (h : Truly b th wr) {m : List Sv} (hm : Rightly (trueOn b th wr) b.svs m) : truths (withSvs b m) ≠ [] := by
  obtain ⟨u, hu, -⟩ := true_truth hv h hm
  exact List.ne_nil_of_mem hu
theorem true_right {b : Bk} (hv : valid b = true) {th wr : List Int} (h : Truly b th wr) {m : List Sv} (hm : Rightly (trueOn b th wr) b.svs m) :
    check (withSvs b m) = 0 ∧ right (withSvs b m) = true ∧ wrongL (withSvs b m) = [] := by
  have hvx := svs_valid hv hm
  have hr : right (withSvs b m) = true := by
    have := true_some hv h hm
    simp [right, hvx, this]
  exact ⟨by simp [check, hvx], hr, (wrong_spec hvx rfl).2.1.2 hr⟩
/-- What is told holds. -/
theorem true_facts {b : Bk} (hv : valid b = true) {th wr : List Int} (h : Truly b th wr) {m : List Sv} (hm : Rightly (trueOn b th wr) b.svs m) {s d : Nat} (hs : s < b.secs.length) (hd : (d : Int) ≤ b.days)
    {p q : Sp} (hT : thickSp (withSvs b m) s d = p) (hW : wearSp (withSvs b m) s = q) {x y x' y' : Int} (hx : thinR (withSvs b m) s = (x, y)) (hx' : goneR (withSvs b m) s = (x', y')) :
    p.lo ≤ trueOn b th wr d s ∧ trueOn b th wr d s ≤ p.hi ∧ q.lo ≤ wr.getD s 0 ∧ wr.getD s 0 ≤ q.hi ∧ (y = 0 ∨ (y = 4 ∧ x = 0)) ∧ (y' = 0 ∨ (y' = 4 ∧ x' = 0)) ∧
    (trueOn b th wr d s < b.rule → y = 0 ∧ x ≤ d ∧ 0 ≤ indexOf (cutL (withSvs b m) d) s) ∧ (b.rule ≤ trueOn b th wr d s → ¬ (y' = 0 ∧ x' ≤ d)) := by
  have hvx := svs_valid hv hm
  have hne := true_some hv h hm
  obtain ⟨u, hu, hw, hf⟩ := true_truth hv h hm
  have h0 : isSection (withSvs b m) s = true := by simp [isSection, withSvs]; omega
  have h1 : (isSection (withSvs b m) s && isDay (withSvs b m) d) = true := by
    simp only [isSection, isDay, Bool.and_eq_true, decide_eq_true_eq]
    exact ⟨⟨Int.natCast_nonneg _, Int.ofNat_lt.2 hs⟩, Int.natCast_nonneg _, hd⟩
  obtain ⟨f1, f2, f3, f4, f5, f6⟩ := told_firsts hvx hne (s := s) hs (d := d) hd (lo := p.lo) (hi := p.hi) hT hx hx'
  have hlost : lost (withSvs b m) u.wear s d = lost b (wearF wr) s d := by
    rw [lost_svs, lost_congr b s hs d (hw s hs) (hw _ (by omega))]
  have hfs := hf s hs
  rw [thickSp, if_pos (studyE_ok hvx h1 hne), Int.toNat_natCast, Int.toNat_natCast] at hT
  rw [wearSp, if_pos (studyE_ok hvx h0 hne), Int.toNat_natCast] at hW
  have t1 := minL_le (List.mem_map.2 ⟨u, hu, rfl⟩ : (thickOn (withSvs b m) s d u).lo ∈ (truths (withSvs b m)).map fun t => (thickOn (withSvs b m) s d t).lo)
  have t2 := le_maxL (List.mem_map.2 ⟨u, hu, rfl⟩ : (thickOn (withSvs b m) s d u).hi ∈ (truths (withSvs b m)).map fun t => (thickOn (withSvs b m) s d t).hi)
  have t3 := minL_le (List.mem_map.2 ⟨u, hu, rfl⟩ : (wearOf s u).lo ∈ (truths (withSvs b m)).map fun t => (wearOf s t).lo)
  have t4 := le_maxL (List.mem_map.2 ⟨u, hu, rfl⟩ : (wearOf s u).hi ∈ (truths (withSvs b m)).map fun t => (wearOf s t).hi)
  have e1 : minL ((truths (withSvs b m)).map fun t => (thickOn (withSvs b m) s d t).lo) = p.lo := by rw [← hT]
  have e2 : maxL ((truths (withSvs b m)).map fun t => (thickOn (withSvs b m) s d t).hi) = p.hi := by rw [← hT]
  have e3 : minL ((truths (withSvs b m)).map fun t => (wearOf s t).lo) = q.lo := by rw [← hW]
  have e4 : maxL ((truths (withSvs b m)).map fun t => (wearOf s t).hi) = q.hi := by rw [← hW]
  rw [e1] at t1
  rw [e2] at t2
  rw [e3] at t3
  rw [e4] at t4
  have hws : u.wear s = wr.getD s 0 := hw s hs
  simp only [thickOn, hlost] at t1 t2
  simp only [wearOf, hws] at t3 t4
  have g1 : p.lo ≤ trueOn b th wr d s := by simp only [trueOn]; omega
  have g2 : trueOn b th wr d s ≤ p.hi := by simp only [trueOn]; omega
  have hrule : (withSvs b m).rule = b.rule := rfl
  rw [hrule] at f3 f4 f6
  refine ⟨g1, g2, t3, t4, f1, f2, fun hlt => ?_, fun hge hc => ?_⟩
  · have hlo : p.lo < b.rule := by omega
    exact ⟨(f3.1 hlo).1, (f3.1 hlo).2, f6.2 hlo⟩
  · have := f4.2 hc
    omega

/-! Day by day. -/
theorem true_zero (b : Bk) (th wr : List Int) (s : Nat) : trueOn b th wr 0 s = th.getD s 0 := by simp [trueOn, lost_zero]
theorem lost_step (b : Bk) (f : Nat → Int) (s d : Nat) (hs : s < b.secs.length) (hn : b.secs.length ≤ 4) : lost b f s (d + 1) = lost b f s d + f (place b s d).toNat := by
  have hp := place_bd b s d (Int.natCast_nonneg _) (by omega)
  have hq : place b s d = 0 ∨ place b s d = 1 ∨ place b s d = 2 ∨ place b s d = 3 := by omega
  unfold lost
  simp only [lain, Int.add_mul]
  rcases hq with e | e | e | e <;> rw [e] <;> simp <;> omega
theorem true_step (b : Bk) (th wr : List Int) (s d : Nat) (hs : s < b.secs.length) (hn : b.secs.length ≤ 4) : trueOn b th wr (d + 1) s = trueOn b th wr d s - wr.getD (place b s d).toNat 0 := by
  simp only [trueOn, lost_step b _ s d hs hn, wearF]
  omega
/-- The section that lies in each place: a chain that is turned lies from its end. -/
def liesOf (n : Nat) (t : Bool) : List Int := (List.range n).map fun p : Nat => if t then (n : Int) - 1 - (p : Int) else (p : Int)
theorem lies_rev (n : Nat) (t : Bool) : (liesOf n t).reverse = liesOf n (!t) := by
  apply List.ext_getElem
  · simp [liesOf]
  · intro k h1 h2
    simp [liesOf] at h1
    simp only [List.getElem_reverse, liesOf, List.getElem_map, List.getElem_range, List.length_map, List.length_range]
    cases t <;> simp <;> omega
theorem lies_len (n : Nat) (t : Bool) : (liesOf n t).length = n := by simp [liesOf]
theorem lies_at {b : Bk} {p d : Nat} (hp : p < b.secs.length) : (liesOf b.secs.length (turned b d))[p]'(by simp [liesOf]; exact hp) = place b p d := by
  simp [liesOf, place]
theorem place_place (b : Bk) (p d : Int) : place b (place b p d) d = p := by
  unfold place
  split <;> omega
/-- A day on which the chain is turned. -/
theorem turned_step {b : Bk} (hv : valid b = true) (d : Nat) : turned b d = (if (d : Int) ∈ b.turns then !(if d = 0 then false else turned b (d - 1 : Nat)) else (if d = 0 then false else turned b (d - 1 : Nat))) := by
  have h4 : turnsOk b.days 0 b.turns = true := by simp only [valid, Bool.and_eq_true, allTurns] at hv; exact hv.1.2
  have key : ∀ (l : List Int) (a : Int), turnsOk b.days a l = true → 0 ≤ a → ∀ t : Bool, l.foldl (fun t x => if x ≤ (d : Int) then !t else t) t = (if (d : Int) ∈ l then !(l.foldl (fun t x => if x ≤ (d : Int) - 1 then !t else t) t) else l.foldl (fun t x => if x ≤ (d : Int) - 1 then !t else t) t) ∧ ((d : Int) ≤ a → ¬ (d : Int) ∈ l ∧ l.foldl (fun t x => if x ≤ (d : Int) then !t else t) t = t ∧ l.foldl (fun t x => if x ≤ (d : Int) - 1 then !t else t) t = t) := by
    intro l
    induction l with
    | nil => intro a _ _ t; simp
    | cons x l ih =>
      intro a hl ha t
      simp only [turnsOk, Bool.and_eq_true] at hl
      obtain ⟨hx, hl⟩ := hl
      simp at hx
      simp only [List.foldl_cons, List.mem_cons]
      have hi := fun t => ih x hl (by omega) t
      by_cases hd : (d : Int) = x
      · have h1 : x ≤ (d : Int) := by omega
        have h2 : ¬ x ≤ (d : Int) - 1 := by omega
        obtain ⟨-, h3⟩ := hi (!t)
        obtain ⟨-, h5⟩ := hi t
        obtain ⟨h6, h7, h8⟩ := h3 (by omega)
        obtain ⟨-, h9, h10⟩ := h5 (by omega)
        refine ⟨?_, fun hle => by omega⟩
        rw [if_pos h1, if_neg h2, if_pos (.inl hd), h7, h10]
      · have h0 : ((d : Int) = x ∨ (d : Int) ∈ l) ↔ (d : Int) ∈ l := by
          constructor
          · rintro (h | h)
            · exact absurd h hd
            · exact h
          · exact .inr
        by_cases h1 : x ≤ (d : Int)
        · have h2 : x ≤ (d : Int) - 1 := by omega
          rw [if_pos h1, if_pos h2]
          refine ⟨?_, fun hle => by omega⟩
          rw [(hi (!t)).1]
          by_cases hm : (d : Int) ∈ l
          · rw [if_pos hm, if_pos (h0.2 hm)]
          · rw [if_neg hm, if_neg (fun h => hm (h0.1 h))]
        · have h2 : ¬ x ≤ (d : Int) - 1 := by omega
          rw [if_neg h1, if_neg h2]
          obtain ⟨h3, h5⟩ := hi t
          obtain ⟨h6, h7, h8⟩ := h5 (by omega)
          refine ⟨?_, fun _ => ⟨fun h => h6 (h0.1 h), h7, h8⟩⟩
          rw [if_neg (fun h => h6 (h0.1 h)), h7, h8]
  obtain ⟨k1, k2⟩ := key b.turns 0 h4 (Int.le_refl _) false
  by_cases hd : d = 0
  · obtain ⟨k3, k4, -⟩ := k2 (by omega)
    rw [if_neg k3, if_pos hd]
    exact k4
  · have e : ((d - 1 : Nat) : Int) = (d : Int) - 1 := by omega
    simp only [if_neg hd, turned, turnedL, e]
    exact k1

end Go.Proofs.YtkfahochpnggbaaGreat.Ch

/- Contracts of Choose and Within. -/
namespace Go.Proofs.YtkfahochpnggbaaGreat
open Go.RowKit

set_option maxHeartbeats 400000 in
theorem mod_wide (n many : Int) (h0 : 0 < many) (hm : many ≤ 9223372036854775807) (w : World) :
    Calls Tryz.prog 27 #[I n, I many] w fun e w' => e = .returned (I (n % many)) ∧ Below w.heap.size w w' := by
  have h1 : ¬ many ≤ 0 := by omega
  have h2 : (many == 0) = false := by simp; omega
  have hp := Int.emod_nonneg n (b := many) (by omega)
  have hq := Int.emod_lt_of_pos n h0
  by_cases hc : 0 ≤ n ∨ many ∣ n
  · have h3 : n.tmod many = n % many := by rw [Int.tmod_eq_emod, if_pos hc]; simp
    have h4 : ¬ n % many < 0 := by omega
    clear hc
    go_enter Tryz.func27, Tryz.ntmps27
    go_wp2
    go_ret
    exact ⟨rfl, Below.refl _ _⟩
  · have h3 : n.tmod many = n % many - many := by rw [Int.tmod_eq_emod, if_neg hc]; omega
    have h4 : n % many - many < 0 := by omega
    have h5 : IntKind.i64.wrap (n % many - many + many) = n % many := by rw [IntWalk.i64_in] <;> omega
    clear hc
    go_enter Tryz.func27, Tryz.ntmps27
    go_wp2
    go_ret
    exact ⟨rfl, Below.refl _ _⟩

set_option maxHeartbeats 1000000 in
theorem choose_any (l : List Int) (v : Value) (n : Int) (w : World) (hv : Sl w w.heap.size 1 v l.length (l.map I)) :
    Calls Tryz.prog 74 #[v, I n] w fun e w' => (∃ x, e = .returned (I x)) ∧ Below w.heap.size w w' := by
  have hm := hv.le
  unfold maxLen at hm
  obtain ⟨A, c, rfl⟩ := hv.form
  by_cases hn : l.length = 0
  · have hn' : (l.length : Int) = 0 := by omega
    have HN := Lib.hid hn
    clear hn
    go_enter Tryz.func74, Tryz.ntmps74
    go_wp2_with fail
    go_ret
    exact ⟨⟨0, rfl⟩, Below.refl _ _⟩
  · have hn' : ¬ (l.length : Int) = 0 := by omega
    have hb : ((l.length : Int) == 0) = false := beq_eq_false_iff_ne.2 hn'
    have hp0 := Int.emod_nonneg n (b := (l.length : Int)) (by omega)
    have hp1 := Int.emod_lt_of_pos n (show 0 < (l.length : Int) by omega)
    obtain ⟨r, hr⟩ : ∃ r, n % (l.length : Int) = r := ⟨_, rfl⟩
    rw [hr] at hp0 hp1
    obtain ⟨k, rfl⟩ : ∃ k : Nat, r = k := ⟨r.toNat, by omega⟩
    have hk := hr
    have hk2 : k < l.length := by omega
    clear hr hp0 hp1
    have hki : (k : Int) < l.length := by omega
    have HM := mod_wide n l.length (by omega) (by omega)
    clear hn hm
    go_enter Tryz.func74, Tryz.ntmps74
    go_wp2_with fail
    refine (HM _).mono ?_
    rintro e w1 ⟨rfl, hB1⟩
    rw [hk]
    obtain ⟨b', off', c', hv', hb', ck⟩ := (hv.below hB1 (Nat.le_refl _)).int hk2
    injection hv' with hA _ hc
    subst hA hc
    have HB1 := Lib.hid hB1
    clear HM hv hk hB1
    go_wp2_with fail
    go_ret
    exact ⟨⟨_, rfl⟩, HB1.out⟩

set_option maxHeartbeats 2000000 in
theorem within_any (s : Ch.Sp) (n : Int) (h0 : 0 ≤ s.lo) (h1 : s.lo ≤ s.hi) (h2 : s.hi ≤ 200) (w : World) :
    Calls Tryz.prog 73 #[vSp s, I n] w fun e w' => (∃ x, e = .returned (I x) ∧ s.lo ≤ x ∧ x ≤ s.hi) ∧ Below w.heap.size w w' := by
  obtain ⟨a, b⟩ := s
  replace h0 : 0 ≤ a := h0
  replace h1 : a ≤ b := h1
  replace h2 : b ≤ 200 := h2
  obtain ⟨q, hq⟩ : ∃ q, n % (b - a + 1) = q := ⟨_, rfl⟩
  have hp0 := Int.emod_nonneg n (b := b - a + 1) (by omega)
  have hp1 := Int.emod_lt_of_pos n (show 0 < b - a + 1 by omega)
  rw [hq] at hp0 hp1
  have e1 : IntKind.i64.wrap (b - a) = b - a := IntWalk.i64_in _ (by omega)
  have e2 : IntKind.i64.wrap (b - a + 1) = b - a + 1 := IntWalk.i64_in _ (by omega)
  have e3 : IntKind.i64.wrap (a + q) = a + q := IntWalk.i64_in _ (by omega)
  have HM : ∀ W, Calls Tryz.prog 27 #[I n, I (b - a + 1)] W fun e w' => e = .returned (I q) ∧ Below W.heap.size W w' := fun W => by
    have := mod_any n (b - a + 1) (by omega) (by omega) W
    rw [hq] at this
    exact this
  have HMM := Lib.hid HM
  clear HM hq
  go_enter Tryz.func73, Tryz.ntmps73
  go_wp2_with fail
  refine name_world ?_
  intro W hW
  have hB : Below w.heap.size w W := by rw [hW]; exact (Below.refl _ _).alloc (Nat.le_refl _) _
  have hr : W.heap[w.heap.size]? = some (.cells #[I a, I b] 51 (0, 0)) := by rw [hW]; exact heap_at _ _ rfl
  have hlt : w.heap.size < W.heap.size := heap_lt hr
  have c0 := cell_of_row W _ 0 _ _ _ hr
  have c1 := cell_of_row W _ 1 _ _ _ hr
  simp only [List.getElem?_toArray, List.getElem?_cons_zero, List.getElem?_cons_succ] at c0 c1
  have HB := Lib.hid hB
  clear hW hr hB
  go_region_held3 (fun w' => Held W w') (first | assumption | exact held_start _ | exact held_step (by assumption) (by assumption) | exact held_step (by assumption) (held_start _) | go_keep)
    (first | (go_at_call 27; refine (HMM.out _).mono ?_; rintro e w1 ⟨rfl, hB1⟩))
  all_goals
    rename_i hHE
    have hbX := HB.out.trans (hHE.2.2.mono HB.out.size)
    have HBX := Lib.hid hbX
    clear hbX
    go_wp2_with fail
    go_ret
    exact ⟨⟨_, rfl, by show a ≤ _; omega, by show _ ≤ b; omega⟩, HBX.out⟩

end Go.Proofs.YtkfahochpnggbaaGreat

/- Mathematics of worn: a day's wear, place by place. -/
namespace Go.Proofs.YtkfahochpnggbaaGreat.Ch

/-- How thick a section is when so many places have been worn on a day. -/
def midOn (b : Bk) (th wr : List Int) (d p s : Nat) : Int := trueOn b th wr d s - if (place b s d).toNat < p then wr.getD (place b s d).toNat 0 else 0
def midRow (b : Bk) (th wr : List Int) (d p : Nat) : List Int := (List.range b.secs.length).map (midOn b th wr d p)
theorem mid_len (b : Bk) (th wr : List Int) (d p : Nat) : (midRow b th wr d p).length = b.secs.length := by simp [midRow]
theorem true_len (b : Bk) (th wr : List Int) (d : Nat) : (trueRow b th wr d).length = b.secs.length := by simp [trueRow]
theorem mid_zero (b : Bk) (th wr : List Int) (d : Nat) : midRow b th wr d 0 = trueRow b th wr d := by
  simp [midRow, trueRow, midOn]
theorem mid_all {b : Bk} (hn : b.secs.length ≤ 4) (th wr : List Int) (d : Nat) : midRow b th wr d b.secs.length = trueRow b th wr (d + 1) := by
  unfold midRow trueRow
  refine List.map_congr_left fun s hs => ?_
  have hs := List.mem_range.1 hs
  have hp := place_bd b s d (Int.natCast_nonneg _) (by omega)
  rw [midOn, if_pos (by omega), true_step b th wr s d hs hn]
theorem mid_step {b : Bk} (th wr : List Int) (d : Nat) {p : Nat} (hp : p < b.secs.length) :
    midRow b th wr d (p + 1) = (midRow b th wr d p).set (place b p d).toNat (midOn b th wr d p (place b p d).toNat - wr.getD p 0) := by
  have hq := place_bd b p d (Int.natCast_nonneg _) (by omega)
  apply List.ext_getElem
  · simp [midRow]
  · intro s h1 h2
    have hs : s < b.secs.length := by simpa [midRow] using h1
    rw [List.getElem_set]
    simp only [midRow, List.getElem_map, List.getElem_range]
    have hps := place_bd b s d (Int.natCast_nonneg _) (by omega)
    by_cases he : (place b p d).toNat = s
    · have e1 : place b p d = (s : Int) := by omega
      have e2 : place b s d = (p : Int) := by rw [← e1]; exact place_place b p d
      rw [if_pos he, he]
      simp only [midOn, e2, Int.toNat_natCast]
      rw [if_pos (by omega), if_neg (by omega)]
      omega
    · rw [if_neg he]
      have hne : (place b s d).toNat ≠ p := by
        intro h
        have e1 : place b s d = (p : Int) := by omega
        have e2 : place b p d = (s : Int) := by rw [← e1]; exact place_place b s d
        exact he (by omega)
      simp only [midOn]
      by_cases hlt : (place b s d).toNat < p
      · rw [if_pos hlt, if_pos (by omega)]
      · rw [if_neg hlt, if_neg (by omega)]
theorem mid_at {b : Bk} (th wr : List Int) (d p : Nat) {s : Nat} (hs : s < b.secs.length) : (midRow b th wr d p)[s]'(by simp [midRow]; exact hs) = midOn b th wr d p s := by simp [midRow]
/-- All the days. -/
def trueRows (b : Bk) (th wr : List Int) (k : Nat) : List (List Int) := (List.range k).map (trueRow b th wr)
theorem rows_snoc (b : Bk) (th wr : List Int) (k : Nat) : trueRows b th wr (k + 1) = trueRows b th wr k ++ [trueRow b th wr k] := by simp [trueRows, List.range_succ]
theorem rows_getD {b : Bk} (th wr : List Int) {k d s : Nat} (hd : d < k) (hs : s < b.secs.length) : ((trueRows b th wr k).getD d []).getD s 0 = trueOn b th wr d s := by
  simp [trueRows, trueRow, List.getD_eq_getElem?_getD, hd, hs]
theorem rows_bd {b : Bk} (hv : valid b = true) {th wr : List Int} (h : Truly b th wr) {k : Nat} (hk : (k : Int) ≤ b.days + 1) (d s : Nat) : 0 ≤ ((trueRows b th wr k).getD d []).getD s 0 ∧ ((trueRows b th wr k).getD d []).getD s 0 ≤ 200 := by
  by_cases hd : d < k
  · by_cases hs : s < b.secs.length
    · rw [rows_getD th wr hd hs]
      exact true_bd hv h hs (by omega)
    · have : ((trueRows b th wr k).getD d []).getD s 0 = 0 := by
        have e1 : (trueRows b th wr k).getD d [] = trueRow b th wr d := by simp [trueRows, List.getD_eq_getElem?_getD, hd]
        rw [e1, List.getD_eq_getElem?_getD, List.getElem?_eq_none (by rw [true_len]; omega)]
        rfl
      omega
  · have : ((trueRows b th wr k).getD d []).getD s 0 = 0 := by
      have e1 : (trueRows b th wr k).getD d [] = [] := by
        rw [List.getD_eq_getElem?_getD, List.getElem?_eq_none (by simp only [trueRows, List.length_map, List.length_range]; omega)]
        rfl
      rw [e1]
      rfl
    omega
/-- Surveys that are right by the rows are right. -/
theorem rows_rightly {b : Bk} (hv : valid b = true) {th wr : List Int} {k : Nat} (hk : (k : Int) = b.days + 1) {m : List Sv} (hm : Rightly (fun d s => ((trueRows b th wr k).getD d []).getD s 0) b.svs m) : Rightly (trueOn b th wr) b.svs m := by
  refine ⟨hm.len, fun j h1 h2 => ?_⟩
  obtain ⟨e1, e2, e3, e4, e5, e6, e7⟩ := hm.each j h1 h2
  have hs : 0 ≤ b.svs[j].sec ∧ b.svs[j].sec < b.secs.length ∧ 0 ≤ b.svs[j].day ∧ b.svs[j].day ≤ b.days := by
    simp only [valid, Bool.and_eq_true, allSurveys] at hv
    have := List.all_eq_true.1 hv.2 _ (List.getElem_mem h1)
    simp [isSurvey, isSection, isDay, between] at this
    omega
  replace e6 : ((trueRows b th wr k).getD b.svs[j].day.toNat []).getD b.svs[j].sec.toNat 0 - b.svs[j].err ≤ m[j].read := e6
  replace e7 : m[j].read ≤ ((trueRows b th wr k).getD b.svs[j].day.toNat []).getD b.svs[j].sec.toNat 0 + b.svs[j].err := e7
  rw [rows_getD th wr (by omega) (by omega)] at e6 e7
  exact ⟨e1, e2, e3, e4, e5, e6, e7⟩

end Go.Proofs.YtkfahochpnggbaaGreat.Ch

/- Contract of the statements' helper truly. -/
namespace Go.Proofs.YtkfahochpnggbaaGreat
open Go.RowKit

/-- So many of what is true. -/
structure Ch.TrulyTo (b : Ch.Bk) (k : Nat) (th wr : List Int) : Prop where
  thn : th.length = k
  wrn : wr.length = k
  thick : ∀ s, s < k → (Ch.secAt b s).thick.lo ≤ th.getD s 0 ∧ th.getD s 0 ≤ (Ch.secAt b s).thick.hi
  wear : ∀ s, s < k → (Ch.secAt b s).wear.lo ≤ wr.getD s 0 ∧ wr.getD s 0 ≤ (Ch.secAt b s).wear.hi
theorem Ch.getD_snoc (l : List Int) (y : Int) (s : Nat) : (l ++ [y]).getD s 0 = if s < l.length then l.getD s 0 else if s = l.length then y else 0 := by
  simp only [List.getD_eq_getElem?_getD, List.getElem?_append]
  split
  · rfl
  · rename_i h
    split
    · rename_i h2; subst h2; simp
    · rename_i h2
      have : 0 < s - l.length := by omega
      rw [List.getElem?_eq_none (by simp; omega)]
      rfl
theorem Ch.TrulyTo.snoc {b : Ch.Bk} {k : Nat} {th wr : List Int} (h : Ch.TrulyTo b k th wr) {y z : Int} (hy : (Ch.secAt b k).thick.lo ≤ y ∧ y ≤ (Ch.secAt b k).thick.hi) (hz : (Ch.secAt b k).wear.lo ≤ z ∧ z ≤ (Ch.secAt b k).wear.hi) :
    Ch.TrulyTo b (k + 1) (th ++ [y]) (wr ++ [z]) := by
  have h1 := h.thn
  have h2 := h.wrn
  refine ⟨by simp [h1], by simp [h2], fun s hs => ?_, fun s hs => ?_⟩
  · rw [Ch.getD_snoc, h1]
    by_cases hk : s < k
    · rw [if_pos hk]; exact h.thick s hk
    · obtain rfl : s = k := by omega
      rw [if_neg hk, if_pos rfl]; exact hy
  · rw [Ch.getD_snoc, h2]
    by_cases hk : s < k
    · rw [if_pos hk]; exact h.wear s hk
    · obtain rfl : s = k := by omega
      rw [if_neg hk, if_pos rfl]; exact hz
theorem Ch.TrulyTo.all {b : Ch.Bk} {th wr : List Int} (h : Ch.TrulyTo b b.secs.length th wr) : Ch.Truly b th wr := ⟨h.thn, h.wrn, h.thick, h.wear⟩

set_option maxRecDepth 100000 in
set_option maxHeartbeats 8000000 in
theorem truly_any (b : Ch.Bk) (S T V v0 : Value) (bits : List Int) (w : World) (hb : RB w w.heap.size b S T V) (hv : Sl w w.heap.size 1 v0 bits.length (bits.map I)) (hval : Ch.valid b = true) :
    Calls Tryz.prog 22 #[vBk S T V b.rule b.days, v0] w fun e w' => (∃ u1 u2 th wr, e = .returned (.tuple #[u1, u2]) ∧ Ch.Truly b th wr ∧ Sl w' w'.heap.size 1 u1 th.length (th.map I) ∧ Sl w' w'.heap.size 1 u2 wr.length (wr.map I)) ∧ Below w.heap.size w w' := by
  obtain ⟨A0, k0, rfl⟩ := hb.secs.form
  obtain ⟨A1, k1, rfl⟩ := hb.turns.form
  obtain ⟨A2, k2, rfl⟩ := hb.svs.form
  obtain ⟨Av, kv, rfl⟩ := hv.form
  have hn := Ch.secs_le hval
  have hsecs : ∀ (k : Nat) (hk : k < b.secs.length), Ch.secAt b k = b.secs[k] := fun k hk => by rw [Ch.secAt, List.getD_eq_getElem?_getD, List.getElem?_eq_getElem hk]; rfl
  have hsf : ∀ k, k < b.secs.length → _ := fun k hk => Ch.sec_facts hval (s := k) hk
  have HSECS := Lib.hid hsecs
  have HSF := Lib.hid hsf
  have HB := Lib.hid hb
  have HV := Lib.hid hv
  clear hb hv hval hsecs hsf
  go_enter Tryz.func22, Tryz.ntmps22
  go_wp2_with fail
  refine name_world ?_
  intro W1 hW1
  have hb1 : Below w.heap.size w W1 := by rw [hW1]; exact (((Below.refl _ _).alloc (Nat.le_refl _) _).alloc (by simp) _).alloc (by simp; omega) _
  have rB : W1.heap[w.heap.size]? = some (.cells #[.slice A0 b.secs.length k0, .slice A1 b.turns.length k1, .slice A2 b.svs.length k2, I b.rule, I b.days] 26 (0, 0)) := by rw [hW1]; exact (Below.heap_alloc _ _ _ (by simp; omega)).trans ((Below.heap_alloc _ _ _ (by simp)).trans (heap_at _ _ rfl))
  have own6 : W1.ownsRow (w.heap.size + 1) 3 1 (.slice (some ⟨w.heap.size + 1, 0, none⟩) 0 0) 0 [] := ⟨rfl, .inr ⟨w.heap.size + 1, 0, #[], rfl, Nat.le_refl _, by rw [hW1]; exact (Below.heap_alloc _ _ _ (by simp)).trans (heap_at _ _ (by simp)), Nat.le_refl _, by unfold maxLen; omega, rfl, rfl⟩⟩
  have own7 : W1.ownsRow (w.heap.size + 1) 3 1 (.slice (some ⟨w.heap.size + 1 + 1, 0, none⟩) 0 0) 0 [] := ⟨rfl, .inr ⟨w.heap.size + 1 + 1, 0, #[], rfl, Nat.le_succ _, by rw [hW1]; exact heap_at _ _ (by simp), Nat.le_refl _, by unfold maxLen; omega, rfl, rfl⟩⟩
  have HB1 := Lib.hid hb1
  have RB := Lib.hid rB
  clear hW1
  go_loopw [6, 7, 8] (fun u6 u7 i wr => ∃ (k : Nat) (v6 v7 : Value) (th ws : List Int), k ≤ b.secs.length ∧ i = I k ∧ v6 = u6 ∧ v7 = u7 ∧ Ch.TrulyTo b k th ws ∧ wr.ownsRow (w.heap.size + 1) 3 1 v6 k (th.map I) ∧ wr.ownsRow (w.heap.size + 1) 3 1 v7 k (ws.map I) ∧ v7.ownBlock ≠ v6.ownBlock ∧ Below (w.heap.size + 1) W1 wr) (fun _ _ i _ => b.secs.length - (intOf i).toNat)
  case atStart => exact ⟨0, _, _, [], [], Nat.zero_le _, rfl, rfl, rfl, ⟨rfl, rfl, fun s hs => by omega, fun s hs => by omega⟩, own6, own7, by simp [Value.ownBlock], Below.refl _ _⟩
  case round =>
    obtain ⟨k, v6, v7, th, ws, hk, rfl, rfl, rfl, hto, ho6, ho7, hdis, hbr⟩ := hrel
    have HTO := Lib.hid hto
    have HO6 := Lib.hid ho6
    have HO7 := Lib.hid ho7
    have HDIS := Lib.hid hdis
    have HBR := Lib.hid hbr
    clear hto ho6 ho7 hdis hbr hb1 rB own6 own7
    by_cases hlt : k < b.secs.length
    · have hki : (k : Int) < b.secs.length := by omega
      obtain ⟨x, hx⟩ : ∃ x, b.secs[k] = x := ⟨_, rfl⟩
      have hsx : Ch.secAt b k = x := (HSECS.out k hlt).trans hx
      have hf := HSF.out k hlt
      rw [hsx] at hf
      obtain ⟨hx0, hx1, hx2, hx3, hx4, hx5', -⟩ : 0 ≤ x.thick.lo ∧ x.thick.lo ≤ x.thick.hi ∧ x.thick.hi ≤ 200 ∧ 0 ≤ x.wear.lo ∧ x.wear.lo ≤ x.wear.hi ∧ x.wear.hi ≤ 3 ∧ True := by
        refine ⟨?_, ?_, ?_, ?_, ?_, ?_, trivial⟩ <;> omega
      have hx5 : x.wear.hi ≤ 200 := by omega
      have hm2 : IntKind.i64.wrap (2 * (k : Int)) = 2 * k := IntWalk.i64_in _ (by omega)
      have hm3 : IntKind.i64.wrap (2 * (k : Int) + 1) = 2 * k + 1 := IntWalk.i64_in _ (by omega)
      have HSX := Lib.hid hsx
      clear hf hsx
      have rBr0 := (HBR.out.block w.heap.size (by omega)).trans RB.out
      have qBr0 := cell_of_row wr _ 0 _ _ _ rBr0
      simp only [List.getElem?_toArray, List.getElem?_cons_zero, List.getElem?_cons_succ] at qBr0
      clear rBr0
      go_wp2_with fail
      clear qBr0
      have rBwr := (HBR.out.block w.heap.size (by omega)).trans RB.out
      have qBwr := cell_of_row wr _ 0 _ _ _ rBwr
      simp only [List.getElem?_toArray, List.getElem?_cons_zero, List.getElem?_cons_succ] at qBwr
      have hFw : w.heap.size + 1 ≤ wr.heap.size := heap_lt rBwr
      have hbwwr : Below w.heap.size w wr := HB1.out.trans (HBR.out.mono (Nat.le_succ _))
      obtain ⟨bl, off, c', hv, hbl, h0, h1, h2, h3⟩ := (HB.out.secs.below hbwwr (Nat.le_refl _)).at4 hlt
      injection hv with hA _ hc
      subst hA hc
      have q0 := h0.trans (by have := flat4 cSec (fun _ => rfl) b.secs k 0 hlt (by omega); simpa [cSec] using this : _ = some (I b.secs[k].thick.lo))
      have q1 := h1.trans (by have := flat4 cSec (fun _ => rfl) b.secs k 1 hlt (by omega); simpa [cSec] using this : _ = some (I b.secs[k].thick.hi))
      have q2 := h2.trans (by have := flat4 cSec (fun _ => rfl) b.secs k 2 hlt (by omega); simpa [cSec] using this : _ = some (I b.secs[k].wear.lo))
      have q3 := h3.trans (by have := flat4 cSec (fun _ => rfl) b.secs k 3 hlt (by omega); simpa [cSec] using this : _ = some (I b.secs[k].wear.hi))
      rw [hx] at q0 q1 q2 q3
      clear h0 h1 h2 h3
      have hwF : w.heap.size < w.heap.size + 1 := by omega
      have hblF : bl < w.heap.size + 1 := by omega
      have HVW := Lib.hid (show ∀ W', HeldB (w.heap.size + 1) wr W' → Sl W' W'.heap.size 1 (.slice Av bits.length kv) bits.length (bits.map I) from fun W' h => (HV.out.below (hbwwr.trans (h.2.mono (Nat.le_succ _))) (Nat.le_refl _)).more (hbwwr.trans (h.2.mono (Nat.le_succ _))).size)
      clear hbwwr rBwr
      refine name_act ?_
      intro A hA
      obtain ⟨R, hR⟩ : ∃ R : Act → World → Prop, R = fun a' w' => ∃ (n6 : Value) (y6 : Int), (∃ u18 u19 u20 u21 u22 u23 u24 u25 u26 u27 u28 u29 u30 u31, a' = (((((((((((((((A.put (some 18) u18).put (some 19) u19).put (some 20) u20).put (some 21) u21).put (some 22) u22).put (some 23) u23).put (some 24) u24).put (some 25) u25).put (some 26) u26).put (some 27) u27).put (some 28) u28).put (some 29) u29).put (some 30) u30).put (some 31) u31).put (some 6) n6)) ∧ (x.thick.lo ≤ y6 ∧ y6 ≤ x.thick.hi) ∧ w'.ownsRow (w.heap.size + 1) 3 1 n6 (k + 1) (th.map I ++ [I y6]) ∧ w'.ownsRow (w.heap.size + 1) 3 1 v7 k (ws.map I) ∧ v7.ownBlock ≠ n6.ownBlock ∧ HeldB (w.heap.size + 1) wr w' := ⟨_, rfl⟩
      have HR := Lib.hid hR
      clear hR
      refine wp_between R ?first ?rest
      case first =>
        subst hA
        have hS0 : HeldB (w.heap.size + 1) wr wr.drew := heldB_of (Below.refl _ _).drew
        have ho0 : wr.drew.ownsRow (w.heap.size + 1) 3 1 v6 k (th.map I) := HO6.out
        have hp0 : wr.drew.ownsRow (w.heap.size + 1) 3 1 v7 k (ws.map I) := HO7.out
        have hdis : v7.ownBlock ≠ v6.ownBlock := HDIS.out
        refine wp_region_held_drew (S := fun w' => HeldB (w.heap.size + 1) wr w') (by kernel_rfl) hS0 (fun _ => ?_)
        refine wpAnyH_take (i := 0) (oi := { dst := some 18, op := Go.Op.move (Go.Operand.tmp 6), type := 23, pos := "outright.go:103", after := #[], guard := none }) (v := ?v1) rfl (by kernel_rfl) (by kernel_rfl) (by kernel_rfl) (fun _ _ _ h => h) (Or.inl ⟨by rfl, ?hy1⟩) hS0 ?r1
        case hy1 =>
          intro w' hSw
          have hq := hSw.1
          clear hSw
          go_simp
          with_reducible rfl
        try simp only [Act.put, List.setIfInBounds_toArray, List.set_cons_zero, List.set_cons_succ]
        refine wpAnyH_take (i := 1) (oi := { dst := some 19, op := Go.Op.fieldAddr 26 (Go.Operand.tmp 2) 0, type := 0, pos := "outright.go:103", after := #[], guard := none }) (v := ?v2) rfl (by kernel_rfl) (by kernel_rfl) (by kernel_rfl) (fun _ _ _ h => h) (Or.inl ⟨by rfl, ?hy2⟩) hS0 ?r2
        case hy2 =>
          intro w' hSw
          have hq := hSw.1
          clear hSw
          go_simp
          with_reducible rfl
        try simp only [Act.put, List.setIfInBounds_toArray, List.set_cons_zero, List.set_cons_succ]
        refine wpAnyH_take (i := 2) (oi := { dst := some 20, op := Go.Op.load 22 (Go.Operand.tmp 19), type := 22, pos := "outright.go:103", after := #[{ on := 1, ground := Go.Ground.data }], guard := none }) (v := ?v3) rfl (by kernel_rfl) (by kernel_rfl) (by kernel_rfl) (fun _ _ _ h => h) (Or.inl ⟨by rfl, ?hy3⟩) hS0 ?r3
        case hy3 =>
          intro w' hSw
          have hq := hSw.1
          clear hSw
          go_simp
          with_reducible rfl
        try simp only [Act.put, List.setIfInBounds_toArray, List.set_cons_zero, List.set_cons_succ]
        refine wpAnyH_take (i := 3) (oi := { dst := some 21, op := Go.Op.move (Go.Operand.tmp 8), type := 3, pos := "outright.go:103", after := #[], guard := none }) (v := ?v4) rfl (by kernel_rfl) (by kernel_rfl) (by kernel_rfl) (fun _ _ _ h => h) (Or.inl ⟨by rfl, ?hy4⟩) hS0 ?r4
        case hy4 =>
          intro w' hSw
          have hq := hSw.1
          clear hSw
          go_simp
          with_reducible rfl
        try simp only [Act.put, List.setIfInBounds_toArray, List.set_cons_zero, List.set_cons_succ]
        refine wpAnyH_take (i := 4) (oi := { dst := some 22, op := Go.Op.indexAddr 22 (Go.Operand.tmp 20) (Go.Operand.tmp 21), type := 0, pos := "outright.go:103", after := #[{ on := 2, ground := Go.Ground.data }, { on := 3, ground := Go.Ground.data }], guard := none }) (v := ?v5) rfl (by kernel_rfl) (by kernel_rfl) (by kernel_rfl) (fun _ _ _ h => h) (Or.inl ⟨by rfl, ?hy5⟩) hS0 ?r5
        case hy5 =>
          intro w' hSw
          have hq := hSw.1
          clear hSw
          go_simp
          with_reducible rfl
        try simp only [Act.put, List.setIfInBounds_toArray, List.set_cons_zero, List.set_cons_succ]
        refine wpAnyH_take (i := 5) (oi := { dst := some 23, op := Go.Op.fieldAddr 76 (Go.Operand.tmp 22) 0, type := 0, pos := "outright.go:103", after := #[{ on := 4, ground := Go.Ground.data }], guard := none }) (v := ?v6) rfl (by kernel_rfl) (by kernel_rfl) (by kernel_rfl) (fun _ _ _ h => h) (Or.inl ⟨by rfl, ?hy6⟩) hS0 ?r6
        case hy6 =>
          intro w' hSw
          have hq := hSw.1
          clear hSw
          go_simp
          with_reducible rfl
        try simp only [Act.put, List.setIfInBounds_toArray, List.set_cons_zero, List.set_cons_succ]
        refine wpAnyH_take (i := 6) (oi := { dst := some 24, op := Go.Op.load 51 (Go.Operand.tmp 23), type := 51, pos := "outright.go:103", after := #[{ on := 5, ground := Go.Ground.data }], guard := none }) (v := ?v7) rfl (by kernel_rfl) (by kernel_rfl) (by kernel_rfl) (fun _ _ _ h => h) (Or.inl ⟨by rfl, ?hy7⟩) hS0 ?r7
        case hy7 =>
          intro w' hSw
          have hq := hSw.1
          clear hSw
          go_simp
          with_reducible rfl
        try simp only [Act.put, List.setIfInBounds_toArray, List.set_cons_zero, List.set_cons_succ]
        refine wpAnyH_take (i := 7) (oi := { dst := some 25, op := Go.Op.move (Go.Operand.tmp 1), type := 23, pos := "outright.go:103", after := #[], guard := none }) (v := ?v8) rfl (by kernel_rfl) (by kernel_rfl) (by kernel_rfl) (fun _ _ _ h => h) (Or.inl ⟨by rfl, ?hy8⟩) hS0 ?r8
        case hy8 =>
          intro w' hSw
          have hq := hSw.1
          clear hSw
          go_simp
          with_reducible rfl
        try simp only [Act.put, List.setIfInBounds_toArray, List.set_cons_zero, List.set_cons_succ]
        refine wpAnyH_take (i := 8) (oi := { dst := some 26, op := Go.Op.move (Go.Operand.tmp 8), type := 3, pos := "outright.go:103", after := #[], guard := none }) (v := ?v9) rfl (by kernel_rfl) (by kernel_rfl) (by kernel_rfl) (fun _ _ _ h => h) (Or.inl ⟨by rfl, ?hy9⟩) hS0 ?r9
        case hy9 =>
          intro w' hSw
          have hq := hSw.1
          clear hSw
          go_simp
          with_reducible rfl
        try simp only [Act.put, List.setIfInBounds_toArray, List.set_cons_zero, List.set_cons_succ]
        refine wpAnyH_take (i := 9) (oi := { dst := some 27, op := Go.Op.binOp Go.BinOp.mul 3 (Go.Operand.const (Go.Value.int Go.IntKind.i64 2)) (Go.Operand.tmp 26) 3, type := 3, pos := "outright.go:103", after := #[{ on := 8, ground := Go.Ground.data }], guard := none }) (v := ?v10) rfl (by kernel_rfl) (by kernel_rfl) (by kernel_rfl) (fun _ _ _ h => h) (Or.inl ⟨by rfl, ?hy10⟩) hS0 ?r10
        case hy10 =>
          intro w' hSw
          have hq := hSw.1
          clear hSw
          go_simp
          with_reducible rfl
        try simp only [Act.put, List.setIfInBounds_toArray, List.set_cons_zero, List.set_cons_succ]
        refine wpAnyH_ready (rs := [10]) (by kernel_rfl) (by simp) ?_
        refine AllReadyH.cons rfl (fun K hK => ?_) AllReadyH.nil
        go_simp
        refine (choose_any bits _ _ _ (HVW.out _ hS0)).mono ?_
        rintro e w11 ⟨⟨xw11, rfl⟩, hBw11⟩
        have hSw11 := heldB_of (hS0.2.trans (hBw11.mono (Nat.le_trans hFw hS0.2.size)))
        have how11 := ho0.kept (grown_of_below hBw11 none) (by cases v6.ownBlock <;> simp)
        have hpw11 := hp0.kept (grown_of_below hBw11 none) (by cases v7.ownBlock <;> simp)
        refine hK.out _ _ hSw11 (fun _ => ?_)
        clear hK K
        try simp only [Act.put, List.setIfInBounds_toArray, List.set_cons_zero, List.set_cons_succ]
        refine wpAnyH_ready (rs := [11]) (by kernel_rfl) (by simp) ?_
        refine AllReadyH.cons rfl (fun K hK => ?_) AllReadyH.nil
        go_simp
        refine (within_any x.thick _ hx0 hx1 hx2 _).mono ?_
        rintro e w12 ⟨⟨y, rfl, hy0, hy1⟩, hBw12⟩
        have hSw12 := heldB_of (hSw11.2.trans (hBw12.mono (Nat.le_trans hFw hSw11.2.size)))
        have how12 := how11.kept (grown_of_below hBw12 none) (by cases v6.ownBlock <;> simp)
        have hpw12 := hpw11.kept (grown_of_below hBw12 none) (by cases v7.ownBlock <;> simp)
        refine hK.out _ _ hSw12 (fun _ => ?_)
        clear hK K
        try simp only [Act.put, List.setIfInBounds_toArray, List.set_cons_zero, List.set_cons_succ]
        refine wpAnyH_ready (rs := [12]) (by kernel_rfl) (by simp) ?_
        refine AllReadyH.cons rfl (fun K hK => ?_) AllReadyH.nil
        go_simp
        refine hK.out _ _ (heldB_of (hSw12.2.alloc (Nat.le_trans hFw hSw12.2.size) _)) (fun _ => ?_)
        clear hK K
        try simp only [Act.put, List.setIfInBounds_toArray, List.set_cons_zero, List.set_cons_succ]
        refine name_anyH ?_
        intro w13 hWw13
        have hAw13 : Below w12.heap.size w12 w13 := by rw [hWw13]; exact (Below.refl _ _).alloc (Nat.le_refl _) _
        have hSw13 : HeldB (w.heap.size + 1) wr w13 := heldB_of (hSw12.2.trans (hAw13.mono (Nat.le_trans hFw hSw12.2.size)))
        have hr5w13 : w13.heap[w12.heap.size]? = some (.cells #[I y] 3 (0, 0)) := by rw [hWw13]; exact heap_at _ _ rfl
        have how13 := how12.kept (grown_of_below hAw13 none) (by cases v6.ownBlock <;> simp)
        have hpw13 := hpw12.kept (grown_of_below hAw13 none) (by cases v7.ownBlock <;> simp)
        clear hWw13
        refine wpAnyH_ready (rs := [13]) (by kernel_rfl) (by simp) ?_
        refine AllReadyH.cons rfl (fun K hK => ?_) AllReadyH.nil
        obtain ⟨i0, hi, hq0, hq1, hq2⟩ := info_parts infoInt
        obtain ⟨vw14, w14, hrunw14, how14, hgw14, -, hatw14⟩ := run_append_own_at (P := Tryz.prog) w13 (w.heap.size + 1) 23 23 3 i0 (I 0) 1 8 under23 hi hq0 hq1 hq2 rfl (by decide) v6 k (th.map I) how13 ⟨w12.heap.size, 0, none⟩ 1 1 [I y] rfl (fun j u hj => by rw [Addr.add_lit, Nat.zero_add, cell_of_row _ _ j _ _ _ hr5w13]; simpa using hj) (by simp [Value.oneCell']) (by unfold maxLen; omega) (by omega) (Nat.le_trans hFw hSw13.2.size)
        have hpw14 := hpw13.kept hgw14 (.inr hdis)
        have hdw14 : v7.ownBlock ≠ vw14.ownBlock := by
          rcases hatw14 with h | h
          · rw [h]; exact hdis
          · intro e
            have := (hpw13.lt _ (e.trans h)).2
            omega
        have hAw14 : Below (w.heap.size + 1) w13 w14 := ⟨hgw14.os, hgw14.tape, hgw14.output, hgw14.size, fun i hi => hgw14.block i (Nat.lt_of_lt_of_le hi (Nat.le_trans hFw hSw13.2.size)) (fun e => by have := (how13.lt i e.symm).1; omega)⟩
        clear hi hq0 hq1 hq2 hatw14 hgw14
        rw [if_pos (by rfl)]
        refine wp_append_run (t := 23) (v0 := v6) (vx := .slice (some ⟨w12.heap.size, 0, none⟩) 1 1) (v' := vw14) (w' := w14) (by rfl) (by simp [go_sem]) (by simp [go_sem]) hrunw14 ?_
        clear hrunw14
        have hSw14 := heldB_of (hSw13.2.trans hAw14)
        refine hK.out _ _ hSw14 (fun _ => ?_)
        clear hK K
        try simp only [Act.put, List.setIfInBounds_toArray, List.set_cons_zero, List.set_cons_succ]
        refine wpAnyH_take (i := 14) (oi := { dst := some 6, op := Go.Op.assign (Go.Operand.tmp 31), type := 23, pos := "outright.go:103", after := #[{ on := 13, ground := Go.Ground.data }, { on := 13, ground := Go.Ground.chain }, { on := 0, ground := Go.Ground.phase }, { on := 1, ground := Go.Ground.phase }, { on := 2, ground := Go.Ground.phase }, { on := 3, ground := Go.Ground.phase }, { on := 4, ground := Go.Ground.phase }, { on := 5, ground := Go.Ground.phase }, { on := 6, ground := Go.Ground.phase }, { on := 7, ground := Go.Ground.phase }, { on := 8, ground := Go.Ground.phase }, { on := 9, ground := Go.Ground.phase }, { on := 10, ground := Go.Ground.phase }, { on := 11, ground := Go.Ground.phase }, { on := 12, ground := Go.Ground.phase }, { on := 13, ground := Go.Ground.phase }], guard := none }) (v := ?v15) rfl (by kernel_rfl) (by kernel_rfl) (by kernel_rfl) (fun _ _ _ h => h) (Or.inl ⟨by rfl, ?hy15⟩) hSw14 ?r15
        case hy15 =>
          intro w' hSw
          have hq := hSw.1
          clear hSw
          go_simp
          with_reducible rfl
        try simp only [Act.put, List.setIfInBounds_toArray, List.set_cons_zero, List.set_cons_succ]
        refine wpAnyH_done (by kernel_rfl) ?_ _
        show R _ _
        rw [HR.out]
        simp only [Act.put, List.setIfInBounds_toArray, List.set_cons_zero, List.set_cons_succ]
        exact ⟨_, y, ⟨_, _, _, _, _, _, _, _, _, _, _, _, _, _, rfl⟩, ⟨hy0, hy1⟩, how14, hpw14, hdw14, hSw14⟩
      case rest =>
        intro a' w2 hra
        rw [HR.out] at hra
        clear HR
        obtain ⟨n6, y6, ⟨u18, u19, u20, u21, u22, u23, u24, u25, u26, u27, u28, u29, u30, u31, rfl⟩, ⟨hlow2, hhiw2⟩, hownw2, hothw2, hdisw2, hHEw2⟩ := hra
        subst hA
        try simp only [Act.put, List.setIfInBounds_toArray, List.set_cons_zero, List.set_cons_succ]
        have hbr2 := HBR.out.trans hHEw2.2
        have HBR2 := Lib.hid hbr2
        obtain ⟨th1, hth1⟩ : ∃ th1, th ++ [y6] = th1 := ⟨_, rfl⟩
        have hmap : th.map I ++ [I y6] = th1.map I := by rw [← hth1]; simp
        rw [hmap] at hownw2
        have hown2 := hownw2
        have hoth2 := hothw2
        have hdis2 := hdisw2
        have HTH1 := Lib.hid hth1
        have HLO6 := Lib.hid hlow2
        have HHI6 := Lib.hid hhiw2
        have HOWN2 := Lib.hid hown2
        have HOTH2 := Lib.hid hoth2
        have HDIS2 := Lib.hid hdis2
        clear hth1 hmap hownw2 hothw2 hdisw2 hown2 hoth2 hdis2 hlow2 hhiw2 hbr2 qBwr q0 q1 q2 q3 hFw HVW hHEw2
        go_wp2_with fail
        have rBw2 := (HBR2.out.block w.heap.size (by omega)).trans RB.out
        have qBw2 := cell_of_row w2 _ 0 _ _ _ rBw2
        simp only [List.getElem?_toArray, List.getElem?_cons_zero, List.getElem?_cons_succ] at qBw2
        have hFw : w.heap.size + 1 ≤ w2.heap.size := heap_lt rBw2
        have hbww2 : Below w.heap.size w w2 := HB1.out.trans (HBR2.out.mono (Nat.le_succ _))
        obtain ⟨bl2, off2, c2', hv, hbl2, h0, h1, h2, h3⟩ := (HB.out.secs.below hbww2 (Nat.le_refl _)).at4 hlt
        injection hv with hA2 _ hc
        injection hA2 with hA2
        injection hA2 with hA2 hA3 _
        subst hA2 hA3 hc
        have q0 := h0.trans (by have := flat4 cSec (fun _ => rfl) b.secs k 0 hlt (by omega); simpa [cSec] using this : _ = some (I b.secs[k].thick.lo))
        have q1 := h1.trans (by have := flat4 cSec (fun _ => rfl) b.secs k 1 hlt (by omega); simpa [cSec] using this : _ = some (I b.secs[k].thick.hi))
        have q2 := h2.trans (by have := flat4 cSec (fun _ => rfl) b.secs k 2 hlt (by omega); simpa [cSec] using this : _ = some (I b.secs[k].wear.lo))
        have q3 := h3.trans (by have := flat4 cSec (fun _ => rfl) b.secs k 3 hlt (by omega); simpa [cSec] using this : _ = some (I b.secs[k].wear.hi))
        rw [hx] at q0 q1 q2 q3
        clear h0 h1 h2 h3
        have HVW := Lib.hid (show ∀ W', HeldB (w.heap.size + 1) w2 W' → Sl W' W'.heap.size 1 (.slice Av bits.length kv) bits.length (bits.map I) from fun W' h => (HV.out.below (hbww2.trans (h.2.mono (Nat.le_succ _))) (Nat.le_refl _)).more (hbww2.trans (h.2.mono (Nat.le_succ _))).size)
        clear hbww2 rBw2
        refine name_act ?_
        intro A hA
        obtain ⟨R, hR⟩ : ∃ R : Act → World → Prop, R = fun a' w' => ∃ (n7 : Value) (y7 : Int), (∃ u32 u33 u34 u35 u36 u37 u38 u39 u40 u41 u42 u43 u44 u45 u46, a' = ((((((((((((((((A.put (some 32) u32).put (some 33) u33).put (some 34) u34).put (some 35) u35).put (some 36) u36).put (some 37) u37).put (some 38) u38).put (some 39) u39).put (some 40) u40).put (some 41) u41).put (some 42) u42).put (some 43) u43).put (some 44) u44).put (some 45) u45).put (some 46) u46).put (some 7) n7)) ∧ (x.wear.lo ≤ y7 ∧ y7 ≤ x.wear.hi) ∧ w'.ownsRow (w.heap.size + 1) 3 1 n7 (k + 1) (ws.map I ++ [I y7]) ∧ w'.ownsRow (w.heap.size + 1) 3 1 n6 (k + 1) (th1.map I) ∧ n6.ownBlock ≠ n7.ownBlock ∧ HeldB (w.heap.size + 1) w2 w' := ⟨_, rfl⟩
        have HR := Lib.hid hR
        clear hR
        refine wp_between R ?first ?rest
        case first =>
          subst hA
          have hS0 : HeldB (w.heap.size + 1) w2 w2.drew := heldB_of (Below.refl _ _).drew
          have ho0 : w2.drew.ownsRow (w.heap.size + 1) 3 1 v7 k (ws.map I) := HOTH2.out
          have hp0 : w2.drew.ownsRow (w.heap.size + 1) 3 1 n6 (k + 1) (th1.map I) := HOWN2.out
          have hdis : n6.ownBlock ≠ v7.ownBlock := HDIS2.out.symm
          refine wp_region_held_drew (S := fun w' => HeldB (w.heap.size + 1) w2 w') (by kernel_rfl) hS0 (fun _ => ?_)
          refine wpAnyH_take (i := 0) (oi := { dst := some 32, op := Go.Op.move (Go.Operand.tmp 7), type := 23, pos := "outright.go:104", after := #[], guard := none }) (v := ?v16) rfl (by kernel_rfl) (by kernel_rfl) (by kernel_rfl) (fun _ _ _ h => h) (Or.inl ⟨by rfl, ?hy16⟩) hS0 ?r16
          case hy16 =>
            intro w' hSw
            have hq := hSw.1
            clear hSw
            go_simp
            with_reducible rfl
          try simp only [Act.put, List.setIfInBounds_toArray, List.set_cons_zero, List.set_cons_succ]
          refine wpAnyH_take (i := 1) (oi := { dst := some 33, op := Go.Op.fieldAddr 26 (Go.Operand.tmp 2) 0, type := 0, pos := "outright.go:104", after := #[], guard := none }) (v := ?v17) rfl (by kernel_rfl) (by kernel_rfl) (by kernel_rfl) (fun _ _ _ h => h) (Or.inl ⟨by rfl, ?hy17⟩) hS0 ?r17
          case hy17 =>
            intro w' hSw
            have hq := hSw.1
            clear hSw
            go_simp
            with_reducible rfl
          try simp only [Act.put, List.setIfInBounds_toArray, List.set_cons_zero, List.set_cons_succ]
          refine wpAnyH_take (i := 2) (oi := { dst := some 34, op := Go.Op.load 22 (Go.Operand.tmp 33), type := 22, pos := "outright.go:104", after := #[{ on := 1, ground := Go.Ground.data }], guard := none }) (v := ?v18) rfl (by kernel_rfl) (by kernel_rfl) (by kernel_rfl) (fun _ _ _ h => h) (Or.inl ⟨by rfl, ?hy18⟩) hS0 ?r18
          case hy18 =>
            intro w' hSw
            have hq := hSw.1
            clear hSw
            go_simp
            with_reducible rfl
          try simp only [Act.put, List.setIfInBounds_toArray, List.set_cons_zero, List.set_cons_succ]
          refine wpAnyH_take (i := 3) (oi := { dst := some 35, op := Go.Op.move (Go.Operand.tmp 8), type := 3, pos := "outright.go:104", after := #[], guard := none }) (v := ?v19) rfl (by kernel_rfl) (by kernel_rfl) (by kernel_rfl) (fun _ _ _ h => h) (Or.inl ⟨by rfl, ?hy19⟩) hS0 ?r19
          case hy19 =>
            intro w' hSw
            have hq := hSw.1
            clear hSw
            go_simp
            with_reducible rfl
          try simp only [Act.put, List.setIfInBounds_toArray, List.set_cons_zero, List.set_cons_succ]
          refine wpAnyH_take (i := 4) (oi := { dst := some 36, op := Go.Op.indexAddr 22 (Go.Operand.tmp 34) (Go.Operand.tmp 35), type := 0, pos := "outright.go:104", after := #[{ on := 2, ground := Go.Ground.data }, { on := 3, ground := Go.Ground.data }], guard := none }) (v := ?v20) rfl (by kernel_rfl) (by kernel_rfl) (by kernel_rfl) (fun _ _ _ h => h) (Or.inl ⟨by rfl, ?hy20⟩) hS0 ?r20
          case hy20 =>
            intro w' hSw
            have hq := hSw.1
            clear hSw
            go_simp
            with_reducible rfl
          try simp only [Act.put, List.setIfInBounds_toArray, List.set_cons_zero, List.set_cons_succ]
          refine wpAnyH_take (i := 5) (oi := { dst := some 37, op := Go.Op.fieldAddr 76 (Go.Operand.tmp 36) 1, type := 0, pos := "outright.go:104", after := #[{ on := 4, ground := Go.Ground.data }], guard := none }) (v := ?v21) rfl (by kernel_rfl) (by kernel_rfl) (by kernel_rfl) (fun _ _ _ h => h) (Or.inl ⟨by rfl, ?hy21⟩) hS0 ?r21
          case hy21 =>
            intro w' hSw
            have hq := hSw.1
            clear hSw
            go_simp
            with_reducible rfl
          try simp only [Act.put, List.setIfInBounds_toArray, List.set_cons_zero, List.set_cons_succ]
          refine wpAnyH_take (i := 6) (oi := { dst := some 38, op := Go.Op.load 51 (Go.Operand.tmp 37), type := 51, pos := "outright.go:104", after := #[{ on := 5, ground := Go.Ground.data }], guard := none }) (v := ?v22) rfl (by kernel_rfl) (by kernel_rfl) (by kernel_rfl) (fun _ _ _ h => h) (Or.inl ⟨by rfl, ?hy22⟩) hS0 ?r22
          case hy22 =>
            intro w' hSw
            have hq := hSw.1
            clear hSw
            go_simp
            with_reducible rfl
          try simp only [Act.put, List.setIfInBounds_toArray, List.set_cons_zero, List.set_cons_succ]
          refine wpAnyH_take (i := 7) (oi := { dst := some 39, op := Go.Op.move (Go.Operand.tmp 1), type := 23, pos := "outright.go:104", after := #[], guard := none }) (v := ?v23) rfl (by kernel_rfl) (by kernel_rfl) (by kernel_rfl) (fun _ _ _ h => h) (Or.inl ⟨by rfl, ?hy23⟩) hS0 ?r23
          case hy23 =>
            intro w' hSw
            have hq := hSw.1
            clear hSw
            go_simp
            with_reducible rfl
          try simp only [Act.put, List.setIfInBounds_toArray, List.set_cons_zero, List.set_cons_succ]
          refine wpAnyH_take (i := 8) (oi := { dst := some 40, op := Go.Op.move (Go.Operand.tmp 8), type := 3, pos := "outright.go:104", after := #[], guard := none }) (v := ?v24) rfl (by kernel_rfl) (by kernel_rfl) (by kernel_rfl) (fun _ _ _ h => h) (Or.inl ⟨by rfl, ?hy24⟩) hS0 ?r24
          case hy24 =>
            intro w' hSw
            have hq := hSw.1
            clear hSw
            go_simp
            with_reducible rfl
          try simp only [Act.put, List.setIfInBounds_toArray, List.set_cons_zero, List.set_cons_succ]
          refine wpAnyH_take (i := 9) (oi := { dst := some 41, op := Go.Op.binOp Go.BinOp.mul 3 (Go.Operand.const (Go.Value.int Go.IntKind.i64 2)) (Go.Operand.tmp 40) 3, type := 3, pos := "outright.go:104", after := #[{ on := 8, ground := Go.Ground.data }], guard := none }) (v := ?v25) rfl (by kernel_rfl) (by kernel_rfl) (by kernel_rfl) (fun _ _ _ h => h) (Or.inl ⟨by rfl, ?hy25⟩) hS0 ?r25
          case hy25 =>
            intro w' hSw
            have hq := hSw.1
            clear hSw
            go_simp
            with_reducible rfl
          try simp only [Act.put, List.setIfInBounds_toArray, List.set_cons_zero, List.set_cons_succ]
          refine wpAnyH_take (i := 10) (oi := { dst := some 42, op := Go.Op.binOp Go.BinOp.add 3 (Go.Operand.tmp 41) (Go.Operand.const (Go.Value.int Go.IntKind.i64 1)) 3, type := 3, pos := "outright.go:104", after := #[{ on := 9, ground := Go.Ground.data }], guard := none }) (v := ?v26) rfl (by kernel_rfl) (by kernel_rfl) (by kernel_rfl) (fun _ _ _ h => h) (Or.inl ⟨by rfl, ?hy26⟩) hS0 ?r26
          case hy26 =>
            intro w' hSw
            have hq := hSw.1
            clear hSw
            go_simp
            with_reducible rfl
          try simp only [Act.put, List.setIfInBounds_toArray, List.set_cons_zero, List.set_cons_succ]
          refine wpAnyH_ready (rs := [11]) (by kernel_rfl) (by simp) ?_
          refine AllReadyH.cons rfl (fun K hK => ?_) AllReadyH.nil
          go_simp
          refine (choose_any bits _ _ _ (HVW.out _ hS0)).mono ?_
          rintro e w27 ⟨⟨xw27, rfl⟩, hBw27⟩
          have hSw27 := heldB_of (hS0.2.trans (hBw27.mono (Nat.le_trans hFw hS0.2.size)))
          have how27 := ho0.kept (grown_of_below hBw27 none) (by cases v7.ownBlock <;> simp)
          have hpw27 := hp0.kept (grown_of_below hBw27 none) (by cases n6.ownBlock <;> simp)
          refine hK.out _ _ hSw27 (fun _ => ?_)
          clear hK K
          try simp only [Act.put, List.setIfInBounds_toArray, List.set_cons_zero, List.set_cons_succ]
          refine wpAnyH_ready (rs := [12]) (by kernel_rfl) (by simp) ?_
          refine AllReadyH.cons rfl (fun K hK => ?_) AllReadyH.nil
          go_simp
          refine (within_any x.wear _ hx3 hx4 hx5 _).mono ?_
          rintro e w28 ⟨⟨y, rfl, hy0, hy1⟩, hBw28⟩
          have hSw28 := heldB_of (hSw27.2.trans (hBw28.mono (Nat.le_trans hFw hSw27.2.size)))
          have how28 := how27.kept (grown_of_below hBw28 none) (by cases v7.ownBlock <;> simp)
          have hpw28 := hpw27.kept (grown_of_below hBw28 none) (by cases n6.ownBlock <;> simp)
          refine hK.out _ _ hSw28 (fun _ => ?_)
          clear hK K
          try simp only [Act.put, List.setIfInBounds_toArray, List.set_cons_zero, List.set_cons_succ]
          refine wpAnyH_ready (rs := [13]) (by kernel_rfl) (by simp) ?_
          refine AllReadyH.cons rfl (fun K hK => ?_) AllReadyH.nil
          go_simp
          refine hK.out _ _ (heldB_of (hSw28.2.alloc (Nat.le_trans hFw hSw28.2.size) _)) (fun _ => ?_)
          clear hK K
          try simp only [Act.put, List.setIfInBounds_toArray, List.set_cons_zero, List.set_cons_succ]
          refine name_anyH ?_
          intro w29 hWw29
          have hAw29 : Below w28.heap.size w28 w29 := by rw [hWw29]; exact (Below.refl _ _).alloc (Nat.le_refl _) _
          have hSw29 : HeldB (w.heap.size + 1) w2 w29 := heldB_of (hSw28.2.trans (hAw29.mono (Nat.le_trans hFw hSw28.2.size)))
          have hr5w29 : w29.heap[w28.heap.size]? = some (.cells #[I y] 3 (0, 0)) := by rw [hWw29]; exact heap_at _ _ rfl
          have how29 := how28.kept (grown_of_below hAw29 none) (by cases v7.ownBlock <;> simp)
          have hpw29 := hpw28.kept (grown_of_below hAw29 none) (by cases n6.ownBlock <;> simp)
          clear hWw29
          refine wpAnyH_ready (rs := [14]) (by kernel_rfl) (by simp) ?_
          refine AllReadyH.cons rfl (fun K hK => ?_) AllReadyH.nil
          obtain ⟨i0, hi, hq0, hq1, hq2⟩ := info_parts infoInt
          obtain ⟨vw30, w30, hrunw30, how30, hgw30, -, hatw30⟩ := run_append_own_at (P := Tryz.prog) w29 (w.heap.size + 1) 23 23 3 i0 (I 0) 1 8 under23 hi hq0 hq1 hq2 rfl (by decide) v7 k (ws.map I) how29 ⟨w28.heap.size, 0, none⟩ 1 1 [I y] rfl (fun j u hj => by rw [Addr.add_lit, Nat.zero_add, cell_of_row _ _ j _ _ _ hr5w29]; simpa using hj) (by simp [Value.oneCell']) (by unfold maxLen; omega) (by omega) (Nat.le_trans hFw hSw29.2.size)
          have hpw30 := hpw29.kept hgw30 (.inr hdis)
          have hdw30 : n6.ownBlock ≠ vw30.ownBlock := by
            rcases hatw30 with h | h
            · rw [h]; exact hdis
            · intro e
              have := (hpw29.lt _ (e.trans h)).2
              omega
          have hAw30 : Below (w.heap.size + 1) w29 w30 := ⟨hgw30.os, hgw30.tape, hgw30.output, hgw30.size, fun i hi => hgw30.block i (Nat.lt_of_lt_of_le hi (Nat.le_trans hFw hSw29.2.size)) (fun e => by have := (how29.lt i e.symm).1; omega)⟩
          clear hi hq0 hq1 hq2 hatw30 hgw30
          rw [if_pos (by rfl)]
          refine wp_append_run (t := 23) (v0 := v7) (vx := .slice (some ⟨w28.heap.size, 0, none⟩) 1 1) (v' := vw30) (w' := w30) (by rfl) (by simp [go_sem]) (by simp [go_sem]) hrunw30 ?_
          clear hrunw30
          have hSw30 := heldB_of (hSw29.2.trans hAw30)
          refine hK.out _ _ hSw30 (fun _ => ?_)
          clear hK K
          try simp only [Act.put, List.setIfInBounds_toArray, List.set_cons_zero, List.set_cons_succ]
          refine wpAnyH_take (i := 15) (oi := { dst := some 7, op := Go.Op.assign (Go.Operand.tmp 46), type := 23, pos := "outright.go:104", after := #[{ on := 14, ground := Go.Ground.data }, { on := 14, ground := Go.Ground.chain }, { on := 0, ground := Go.Ground.phase }, { on := 1, ground := Go.Ground.phase }, { on := 2, ground := Go.Ground.phase }, { on := 3, ground := Go.Ground.phase }, { on := 4, ground := Go.Ground.phase }, { on := 5, ground := Go.Ground.phase }, { on := 6, ground := Go.Ground.phase }, { on := 7, ground := Go.Ground.phase }, { on := 8, ground := Go.Ground.phase }, { on := 9, ground := Go.Ground.phase }, { on := 10, ground := Go.Ground.phase }, { on := 11, ground := Go.Ground.phase }, { on := 12, ground := Go.Ground.phase }, { on := 13, ground := Go.Ground.phase }, { on := 14, ground := Go.Ground.phase }], guard := none }) (v := ?v31) rfl (by kernel_rfl) (by kernel_rfl) (by kernel_rfl) (fun _ _ _ h => h) (Or.inl ⟨by rfl, ?hy31⟩) hSw30 ?r31
          case hy31 =>
            intro w' hSw
            have hq := hSw.1
            clear hSw
            go_simp
            with_reducible rfl
          try simp only [Act.put, List.setIfInBounds_toArray, List.set_cons_zero, List.set_cons_succ]
          refine wpAnyH_done (by kernel_rfl) ?_ _
          show R _ _
          rw [HR.out]
          simp only [Act.put, List.setIfInBounds_toArray, List.set_cons_zero, List.set_cons_succ]
          exact ⟨_, y, ⟨_, _, _, _, _, _, _, _, _, _, _, _, _, _, _, rfl⟩, ⟨hy0, hy1⟩, how30, hpw30, hdw30, hSw30⟩
        case rest =>
          intro a' w3 hra
          rw [HR.out] at hra
          clear HR
          obtain ⟨n7, y7, ⟨u32, u33, u34, u35, u36, u37, u38, u39, u40, u41, u42, u43, u44, u45, u46, rfl⟩, ⟨hlow3, hhiw3⟩, hownw3, hothw3, hdisw3, hHEw3⟩ := hra
          subst hA
          try simp only [Act.put, List.setIfInBounds_toArray, List.set_cons_zero, List.set_cons_succ]
          have HO := Lib.hid hothw3
          clear qBw2 q0 q1 q2 q3 hFw HVW hothw3
          go_wp2_with fail
          go_roundw
          case rel =>
            refine ⟨k + 1, n6, n7, th1, ws ++ [y7], by omega, by go_num, rfl, rfl, ?_, HO.out, by simpa using hownw3, hdisw3.symm, HBR2.out.trans hHEw3.2⟩
            rw [← HTH1.out]
            exact HTO.out.snoc (by rw [HSX.out]; exact ⟨HLO6.out, HHI6.out⟩) (by rw [HSX.out]; exact ⟨hlow3, hhiw3⟩)
          case measure => simp [intOf]; omega
    · obtain rfl : k = b.secs.length := by omega
      have rBr0 := (HBR.out.block w.heap.size (by omega)).trans RB.out
      have qBr0 := cell_of_row wr _ 0 _ _ _ rBr0
      simp only [List.getElem?_toArray, List.getElem?_cons_zero, List.getElem?_cons_succ] at qBr0
      clear rBr0
      have e1 := HTO.out.thn
      have e2 := HTO.out.wrn
      have s6 := sl_own HO6.out (Nat.le_refl _)
      have s7 := sl_own HO7.out (Nat.le_refl _)
      obtain ⟨A6, c6, rfl⟩ := s6.form
      obtain ⟨A7, c7, rfl⟩ := s7.form
      have S6 := Lib.hid s6
      have S7 := Lib.hid s7
      clear s6 s7
      go_wp2_with fail
      refine bodyPost_ret (v := .tuple #[.slice A6 b.secs.length c6, .slice A7 b.secs.length c7]) (by simp [results, Tryz.results22, go_sem]) rfl ⟨⟨_, _, th, ws, rfl, HTO.out.all, ?_, ?_⟩, HB1.out.trans (HBR.out.mono (Nat.le_succ _))⟩
      · rw [e1]; exact S6.out
      · rw [e2]; exact S7.out

end Go.Proofs.YtkfahochpnggbaaGreat
