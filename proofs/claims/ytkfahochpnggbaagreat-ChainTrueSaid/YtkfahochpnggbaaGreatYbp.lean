/- Texts on the program that the proof leans on, part 42. -/
import Derived.Test.YtkfahochpnggbaaGreatYaf
import Derived.Test.YtkfahochpnggbaaGreatYav
import Derived.Test.YtkfahochpnggbaaGreatYat
import Derived.Test.YtkfahochpnggbaaGreatYau
set_option linter.unusedVariables false
set_option linter.unusedSimpArgs false

/- The layer of chains, as plain mathematics: which truths are produced: those, and all of them, in which each place wears within its span, and each section can be as thick as its surveys tell. Imports nothing of the program. -/
namespace Go.Proofs.YtkfahochpnggbaaGreat.Ch

/-! A section is worn by two places alone. -/
theorem lain_other (b : Bk) (s : Nat) (hs : s < b.secs.length) (d p : Nat) (h1 : p ≠ s) (h2 : p ≠ b.secs.length - 1 - s) : lain b s d p = 0 := by
  induction d with
  | zero => rfl
  | succ d ih =>
    simp only [lain, ih, Int.zero_add]
    rw [if_neg]
    unfold place
    split <;> omega
theorem lost_congr (b : Bk) {f g : Nat → Int} (s : Nat) (hs : s < b.secs.length) (d : Nat) (h1 : f s = g s) (h2 : f (b.secs.length - 1 - s) = g (b.secs.length - 1 - s)) : lost b f s d = lost b g s d := by
  have key : ∀ p, lain b s d p * f p = lain b s d p * g p := by
    intro p
    by_cases e1 : p = s
    · subst e1; rw [h1]
    · by_cases e2 : p = b.secs.length - 1 - s
      · subst e2; rw [h2]
      · rw [lain_other b s hs d p e1 e2]; simp
  simp only [lost, key]
theorem surveyedL_congr (b : Bk) {f g : Nat → Int} (s : Nat) (hs : s < b.secs.length) (h1 : f s = g s) (h2 : f (b.secs.length - 1 - s) = g (b.secs.length - 1 - s)) (t : Sp) (l : List Sv) : surveyedL b f s t l = surveyedL b g s t l := by
  unfold surveyedL
  induction l generalizing t with
  | nil => rfl
  | cons x l ih =>
    simp only [List.foldl_cons]
    rw [ih]
    congr 1
    by_cases hx : x.sec = (s : Int)
    · rw [if_pos hx, if_pos hx]
      simp only [read, hx, lost_congr b s hs _ h1 h2]
    · rw [if_neg hx, if_neg hx]
theorem surveyed_congr (b : Bk) {f g : Nat → Int} (s : Nat) (hs : s < b.secs.length) (h1 : f s = g s) (h2 : f (b.secs.length - 1 - s) = g (b.secs.length - 1 - s)) : surveyed b f s = surveyed b g s :=
  surveyedL_congr b s hs h1 h2 _ _

/-- Nothing but places from p on, and the sections that can lie in them, has changed. -/
def Agree (n p : Nat) (t u : Tr) : Prop :=
  (∀ q, q < p ∨ n ≤ q → u.wear q = t.wear q) ∧ (∀ s, (s < p ∧ n - 1 - s < p) ∨ n ≤ s → u.first s = t.first s)
theorem Agree.refl (n p : Nat) (t : Tr) : Agree n p t t := ⟨fun _ _ => rfl, fun _ _ => rfl⟩
theorem Agree.trans {n p : Nat} {t u v : Tr} (h : Agree n p t u) (k : Agree n p u v) : Agree n p t v :=
  ⟨fun q hq => (k.1 q hq).trans (h.1 q hq), fun s hs => (k.2 s hs).trans (h.2 s hs)⟩
theorem Agree.less {n p p' : Nat} {t u : Tr} (h : Agree n p t u) (hp : p' ≤ p) : Agree n p' t u :=
  ⟨fun q hq => h.1 q (by omega), fun s hs => h.2 s (by omega)⟩
theorem settle_agree (b : Bk) {p : Nat} (hp : p < b.secs.length) (l : List Nat) (hl : ∀ s ∈ l, s < b.secs.length ∧ (s = p ∨ b.secs.length - 1 - s = p)) (t : Tr) : Agree b.secs.length p t (settle b t l).1 := by
  induction l generalizing t with
  | nil => exact Agree.refl _ _ _
  | cons s r ih =>
    have h1 : Agree b.secs.length p t (t.setFirst s (surveyed b t.wear s)) := by
      refine ⟨fun _ _ => rfl, fun s' hs' => ?_⟩
      have := hl s (List.mem_cons_self ..)
      simp only [Tr.setFirst, upd]
      rw [if_neg (by omega)]
    simp only [settle]
    split
    · exact h1
    · exact h1.trans (ih (fun s' hs' => hl s' (List.mem_cons_of_mem _ hs')) _)
theorem settledN_in {n p : Nat} (hp : p < n) : ∀ s ∈ settledN n p, s < n ∧ (s = p ∨ n - 1 - s = p) := by
  intro s hs
  unfold settledN at hs
  split at hs
  · simp at hs
  · simp at hs; omega
theorem setWear_agree (n p : Nat) (t : Tr) (v : Int) (hp : p < n) : Agree n p t (t.setWear p v) :=
  ⟨fun q hq => by simp only [Tr.setWear, upd]; rw [if_neg (by omega)], fun _ _ => rfl⟩
theorem tryWear_agree (b : Bk) {next : Tr → List Tr × Tr} {p : Nat} (hp : p < b.secs.length) (hn : ∀ t, Agree b.secs.length (p + 1) t (next t).2) (t : Tr) (v : Int) : Agree b.secs.length p t (tryWear b next p t v).2 := by
  have h1 := (setWear_agree b.secs.length p t v hp).trans (settle_agree b hp _ (settledN_in hp) (t.setWear p v))
  simp only [tryWear]
  split
  · exact h1.trans ((hn _).less (Nat.le_succ _))
  · exact h1
theorem wearLoop_agree (b : Bk) {next : Tr → List Tr × Tr} {p : Nat} (hp : p < b.secs.length) (hn : ∀ t, Agree b.secs.length (p + 1) t (next t).2) (lo : Int) (k : Nat) (t : Tr) : Agree b.secs.length p t (wearLoop b next p lo k t).2 := by
  induction k with
  | zero => exact Agree.refl _ _ _
  | succ k ih => exact ih.trans (tryWear_agree b hp hn _ _)
theorem worn_agree (b : Bk) (m : Nat) (hm : m ≤ b.secs.length) (t : Tr) : Agree b.secs.length (b.secs.length - m) t (worn b m t).2 := by
  induction m generalizing t with
  | zero => exact Agree.refl _ _ _
  | succ m ih =>
    have he : b.secs.length - (m + 1) + 1 = b.secs.length - m := by omega
    exact wearLoop_agree b (by omega) (fun t => by rw [he]; exact ih (by omega) t) _ _ t

/-! What settling a place comes to. -/
/-- All of these sections can be as thick as their surveys tell, and they are. -/
def SetAll (b : Bk) (w : Nat → Int) (u : Tr) (l : List Nat) : Prop := ∀ s ∈ l, u.first s = surveyed b w s
theorem settle_true (b : Bk) (l : List Nat) (t : Tr) (h : (settle b t l).2 = true) :
    (∀ s ∈ l, isEmpty (surveyed b t.wear s) = false) ∧ SetAll b t.wear (settle b t l).1 l := by
  induction l generalizing t with
  | nil => exact ⟨fun s hs => by simp at hs, fun s hs => by simp at hs⟩
  | cons s r ih =>
    simp only [settle] at h ⊢
    by_cases he : isEmpty (surveyed b t.wear s) = true
    · rw [if_pos he] at h; cases h
    · rw [if_neg he] at h ⊢
      obtain ⟨h1, h2⟩ := ih _ h
      have h3 : ∀ (q : Tr) (l : List Nat), s ∉ l → (settle b q l).1.first s = q.first s := by
        intro q l
        induction l generalizing q with
        | nil => intro _; rfl
        | cons a r ih =>
          intro hn
          simp only [settle]
          have hn' : s ≠ a ∧ s ∉ r := by simpa using hn
          split
          · simp only [Tr.setFirst, upd]; rw [if_neg hn'.1]
          · rw [ih _ hn'.2]; simp only [Tr.setFirst, upd]; rw [if_neg hn'.1]
      refine ⟨fun s' hs' => ?_, fun s' hs' => ?_⟩
      · rcases List.mem_cons.1 hs' with rfl | hs'
        · simpa using he
        · exact h1 s' hs'
      · by_cases hr : s' ∈ r
        · exact h2 s' hr
        · have hs2 : s' = s := by rcases List.mem_cons.1 hs' with h | h; exact h; exact absurd h hr
          subst hs2
          rw [h3 _ _ hr]
          simp only [Tr.setFirst, upd, if_pos]
theorem settle_works (b : Bk) (l : List Nat) (t : Tr) (h : ∀ s ∈ l, isEmpty (surveyed b t.wear s) = false) : (settle b t l).2 = true := by
  induction l generalizing t with
  | nil => rfl
  | cons s r ih =>
    simp only [settle]
    rw [if_neg (by rw [h s (List.mem_cons_self ..)]; simp)]
    exact ih _ (fun s' hs' => h s' (List.mem_cons_of_mem _ hs'))

/-- The sections that can lie in a place from p on, and in none before it .. are those whose last place is from p on. -/
def lastPlace (n s : Nat) : Nat := max s (n - 1 - s)
theorem lastPlace_lt {n s : Nat} (h : s < n) : lastPlace n s < n := by unfold lastPlace; omega
theorem settledN_mem {n p s : Nat} (hp : p < n) (hs : s < n) : s ∈ settledN n p ↔ lastPlace n s = p := by
  unfold settledN lastPlace
  split
  · simp; omega
  · simp; omega
/-- What is said of a truth that was produced when places from p on were worn, from what t was. -/
structure Made (b : Bk) (p : Nat) (t u : Tr) : Prop where
  agree : Agree b.secs.length p t u
  wear : ∀ q, p ≤ q → q < b.secs.length → (secAt b q).wear.lo ≤ u.wear q ∧ u.wear q ≤ (secAt b q).wear.hi
  first : ∀ s, s < b.secs.length → p ≤ lastPlace b.secs.length s → u.first s = surveyed b u.wear s ∧ isEmpty (surveyed b u.wear s) = false
theorem worn_made (b : Bk) (m : Nat) (hm : m ≤ b.secs.length) (t : Tr) : ∀ u ∈ (worn b m t).1, Made b (b.secs.length - m) t u := by
  induction m generalizing t with
  | zero =>
    intro u hu
    simp [worn] at hu
    subst hu
    exact ⟨Agree.refl _ _ _, fun q h1 h2 => by omega, fun s h1 h2 => by have := lastPlace_lt h1; omega⟩
  | succ m ih =>
    have hp : b.secs.length - (m + 1) < b.secs.length := by omega
    have he : b.secs.length - (m + 1) + 1 = b.secs.length - m := by omega
    generalize hpp : b.secs.length - (m + 1) = p at hp he ⊢
    have hn : ∀ t, Agree b.secs.length (p + 1) t (worn b m t).2 := fun t => by rw [he]; exact worn_agree b m (by omega) t
    suffices hk : ∀ k, k ≤ wears b p → ∀ u ∈ (wearLoop b (worn b m) p (secAt b p).wear.lo k t).1, Made b p t u by
      intro u hu
      simp only [worn, hpp] at hu
      exact hk _ (Nat.le_refl _) u hu
    intro k
    induction k with
    | zero => intro _ u hu; simp [wearLoop] at hu
    | succ k ihk =>
      intro hkw u hu
      simp only [wearLoop, List.mem_append] at hu
      rcases hu with hu | hu
      · exact ihk (by omega) u hu
      · have ht0 := wearLoop_agree b hp hn (secAt b p).wear.lo k t
        generalize (wearLoop b (worn b m) p (secAt b p).wear.lo k t).2 = t0 at hu ht0
        simp only [tryWear] at hu
        split at hu
        · rename_i hset
          obtain ⟨hne, hfs⟩ := settle_true b _ _ hset
          have hag := settle_agree b hp _ (settledN_in hp) (t0.setWear p ((secAt b p).wear.lo + k))
          have hw : (settle b (t0.setWear p ((secAt b p).wear.lo + k)) (settledN b.secs.length p)).1.wear = (t0.setWear p ((secAt b p).wear.lo + k)).wear := settle_wear _ _ _
          generalize (settle b (t0.setWear p ((secAt b p).wear.lo + k)) (settledN b.secs.length p)).1 = t1 at hu hag hfs hw
          have hM := ih (by omega) t1 u hu
          rw [← he] at hM
          have hup : u.wear p = (secAt b p).wear.lo + k := by
            rw [hM.agree.1 p (.inl (Nat.lt_succ_self _)), hw]; simp [Tr.setWear, upd]
          refine ⟨ht0.trans ((setWear_agree _ p t0 _ hp).trans (hag.trans (hM.agree.less (Nat.le_succ _)))), fun q h1 h2 => ?_, fun s h1 h2 => ?_⟩
          · rcases Nat.lt_or_ge p q with h | h
            · exact hM.wear q (by omega) h2
            · obtain rfl : q = p := by omega
              rw [hup]
              unfold wears at hkw
              omega
          · rcases Nat.lt_or_ge p (lastPlace b.secs.length s) with h | h
            · exact hM.first s h1 (by omega)
            · have hlp : lastPlace b.secs.length s = p := by omega
              have hin := (settledN_mem hp h1).2 hlp
              have hcg : ∀ q, q ≤ p → u.wear q = (t0.setWear p ((secAt b p).wear.lo + k)).wear q := fun q hq => by rw [hM.agree.1 q (.inl (by omega)), hw]
              have hsv : surveyed b u.wear s = surveyed b (t0.setWear p ((secAt b p).wear.lo + k)).wear s :=
                surveyed_congr b s h1 (hcg _ (by unfold lastPlace at hlp; omega)) (hcg _ (by unfold lastPlace at hlp; omega))
              rw [hsv]
              refine ⟨?_, hne s hin⟩
              rw [hM.agree.2 s (.inl (by unfold lastPlace at hlp; omega))]
              exact hfs s hin
        · simp at hu
/-- None is left out. -/
theorem worn_all_made (b : Bk) (m : Nat) (hm : m ≤ b.secs.length) (t : Tr) (f : Nat → Int) (hlow : ∀ q, q < b.secs.length - m → f q = t.wear q)
    (hwear : ∀ q, b.secs.length - m ≤ q → q < b.secs.length → (secAt b q).wear.lo ≤ f q ∧ f q ≤ (secAt b q).wear.hi)
    (hfirst : ∀ s, s < b.secs.length → b.secs.length - m ≤ lastPlace b.secs.length s → isEmpty (surveyed b f s) = false) : ∃ u ∈ (worn b m t).1, ∀ q, q < b.secs.length → u.wear q = f q := by
  induction m generalizing t with
  | zero => exact ⟨t, by simp [worn], fun q hq => (hlow q (by omega)).symm⟩
  | succ m ih =>
    have hp : b.secs.length - (m + 1) < b.secs.length := by omega
    have he : b.secs.length - (m + 1) + 1 = b.secs.length - m := by omega
    generalize hpp : b.secs.length - (m + 1) = p at *
    have hn : ∀ t, Agree b.secs.length (p + 1) t (worn b m t).2 := fun t => by rw [he]; exact worn_agree b m (by omega) t
    obtain ⟨k, hk⟩ : ∃ k : Nat, f p = (secAt b p).wear.lo + k := by
      have := hwear p (Nat.le_refl _) hp
      exact ⟨(f p - (secAt b p).wear.lo).toNat, by omega⟩
    have hkw : k < wears b p := by
      have := hwear p (Nat.le_refl _) hp
      unfold wears; omega
    have ht0 := wearLoop_agree b hp hn (secAt b p).wear.lo k t
    have hsub : ∀ j, k < j → ∀ u ∈ (tryWear b (worn b m) p (wearLoop b (worn b m) p (secAt b p).wear.lo k t).2 ((secAt b p).wear.lo + k)).1, u ∈ (wearLoop b (worn b m) p (secAt b p).wear.lo j t).1 := by
      intro j
      induction j with
      | zero => intro h; omega
      | succ j ihj =>
        intro h u hu
        simp only [wearLoop, List.mem_append]
        rcases Nat.lt_or_ge k j with h' | h'
        · exact .inl (ihj h' u hu)
        · obtain rfl : k = j := by omega
          exact .inr hu
    generalize (wearLoop b (worn b m) p (secAt b p).wear.lo k t).2 = t0 at hsub ht0
    have hw0 : ∀ q, q ≤ p → f q = (t0.setWear p ((secAt b p).wear.lo + k)).wear q := by
      intro q hq
      simp only [Tr.setWear, upd]
      split
      · rename_i h; rw [h]; exact hk
      · rw [ht0.1 q (.inl (by omega))]; exact hlow q (by omega)
    have hset : (settle b (t0.setWear p ((secAt b p).wear.lo + k)) (settledN b.secs.length p)).2 = true := by
      refine settle_works b _ _ (fun s hs => ?_)
      have h1 := (settledN_in hp s hs).1
      have hlp := (settledN_mem hp h1).1 hs
      rw [← surveyed_congr b (f := f) s h1 (hw0 _ (by unfold lastPlace at hlp; omega)) (hw0 _ (by unfold lastPlace at hlp; omega))]
      exact hfirst s h1 (by omega)
    have hag := settle_agree b hp _ (settledN_in hp) (t0.setWear p ((secAt b p).wear.lo + k))
    have hw := settle_wear b (t0.setWear p ((secAt b p).wear.lo + k)) (settledN b.secs.length p)
    obtain ⟨u, hu, huw⟩ := ih (by omega) (settle b (t0.setWear p ((secAt b p).wear.lo + k)) (settledN b.secs.length p)).1
      (fun q hq => by rw [hw]; exact hw0 q (by omega)) (fun q h1 h2 => hwear q (by omega) h2) (fun s h1 h2 => hfirst s h1 (by omega))
    refine ⟨u, ?_, huw⟩
    simp only [worn, hpp]
    refine hsub _ hkw u ?_
    simp only [tryWear, if_pos hset]
    exact hu

/-- What each truth is. -/
structure IsTr (b : Bk) (u : Tr) : Prop where
  wear : ∀ q, q < b.secs.length → (secAt b q).wear.lo ≤ u.wear q ∧ u.wear q ≤ (secAt b q).wear.hi
  first : ∀ s, s < b.secs.length → u.first s = surveyed b u.wear s ∧ isEmpty (surveyed b u.wear s) = false
theorem truths_is {b : Bk} {u : Tr} (h : u ∈ truths b) : IsTr b u := by
  have hM := worn_made b b.secs.length (Nat.le_refl _) noTr u h
  rw [Nat.sub_self] at hM
  exact ⟨fun q hq => hM.wear q (Nat.zero_le _) hq, fun s hs => hM.first s hs (Nat.zero_le _)⟩
theorem truths_out {b : Bk} {u : Tr} (h : u ∈ truths b) (q : Nat) (hq : b.secs.length ≤ q) : u.wear q = 0 := by
  have hM := worn_made b b.secs.length (Nat.le_refl _) noTr u h
  exact hM.agree.1 q (.inr hq)
theorem truths_all (b : Bk) (f : Nat → Int) (hwear : ∀ q, q < b.secs.length → (secAt b q).wear.lo ≤ f q ∧ f q ≤ (secAt b q).wear.hi) (hfirst : ∀ s, s < b.secs.length → isEmpty (surveyed b f s) = false) :
    ∃ u ∈ truths b, ∀ q, q < b.secs.length → u.wear q = f q :=
  worn_all_made b b.secs.length (Nat.le_refl _) noTr f (fun q hq => by omega) (fun q _ h => hwear q h) (fun s h _ => hfirst s h)

end Go.Proofs.YtkfahochpnggbaaGreat.Ch

/- Mathematics: a chain that is never turned, and was not surveyed. Imports nothing of the program's walks. -/
namespace Go.Proofs.YtkfahochpnggbaaGreat.Ch

/-- A book without its turns and surveys. -/
def plain (b : Bk) : Bk := { b with turns := [], svs := [] }

theorem plain_place (b : Bk) (s d : Int) : place (plain b) s d = s := rfl
theorem plain_lain (b : Bk) (s d p : Nat) : lain (plain b) s d p = if p = s then (d : Int) else 0 := by
  induction d with
  | zero => simp [lain]
  | succ d ih =>
    rw [lain, ih, plain_place]
    by_cases h : p = s
    · subst h; simp
    · have : ¬ (p : Int) = s := by omega
      simp [h, this]
theorem plain_lost (b : Bk) (f : Nat → Int) (s d : Nat) (hs : s < 4) : lost (plain b) f s d = d * f s := by
  unfold lost
  rw [plain_lain, plain_lain, plain_lain, plain_lain]
  match s, hs with
  | 0, _ => simp
  | 1, _ => simp
  | 2, _ => simp
  | 3, _ => simp
theorem plain_surveyed (b : Bk) (f : Nat → Int) (s : Nat) : surveyed (plain b) f s = (secAt b s).thick := rfl
theorem plain_valid {b : Bk} (h : valid b = true) : valid (plain b) = true := by
  simp only [valid, Bool.and_eq_true] at h ⊢
  obtain ⟨⟨⟨⟨h1, h2⟩, h3⟩, -⟩, -⟩ := h
  refine ⟨⟨⟨⟨?_, h2⟩, h3⟩, rfl⟩, rfl⟩
  simp [sized, bnds, between] at h1
  simp [sized, bnds, between, plain]
  omega
theorem okSec_at {b : Bk} (h : valid b = true) {s : Nat} (hs : s < b.secs.length) : okSec (secAt b s) = true := by
  simp only [valid, Bool.and_eq_true] at h
  have := List.all_eq_true.1 h.1.1.1.2 _ (List.getElem_mem hs)
  rw [secAt, List.getD_eq_getElem?_getD, List.getElem?_eq_getElem hs]
  exact this
/-- There is a truth in which each place wears what is chosen. -/
theorem plain_truth {b : Bk} (h : valid b = true) (f : Nat → Int) (hf : ∀ q, q < b.secs.length → (secAt b q).wear.lo ≤ f q ∧ f q ≤ (secAt b q).wear.hi) :
    ∃ u ∈ truths (plain b), ∀ q, q < b.secs.length → u.wear q = f q := by
  refine truths_all (plain b) f hf fun s hs => ?_
  rw [plain_surveyed]
  have := okSec_at h hs
  simp [okSec, isSpan] at this
  simp [isEmpty]
  omega
theorem plain_some {b : Bk} (h : valid b = true) : truths (plain b) ≠ [] := by
  obtain ⟨u, hu, -⟩ := plain_truth h (fun q => (secAt b q).wear.lo) fun q hq => by
    have := okSec_at h hq
    simp [okSec, isSpan] at this
    exact ⟨Int.le_refl _, by omega⟩
  exact List.ne_nil_of_mem hu

end Go.Proofs.YtkfahochpnggbaaGreat.Ch

/- Mathematics: what is told of a chain that is never turned, and was not surveyed. -/
namespace Go.Proofs.YtkfahochpnggbaaGreat.Ch

theorem foldl_min_le (l : List Int) (x : Int) : l.foldl min x ≤ x ∧ ∀ y ∈ l, l.foldl min x ≤ y := by
  induction l generalizing x with
  | nil => exact ⟨Int.le_refl _, by simp⟩
  | cons z l ih =>
    rw [List.foldl_cons]
    obtain ⟨h1, h2⟩ := ih (min x z)
    refine ⟨by omega, fun y hy => ?_⟩
    rcases List.mem_cons.1 hy with rfl | hy
    · omega
    · exact h2 y hy
theorem foldl_min_mem (l : List Int) (x : Int) : l.foldl min x = x ∨ l.foldl min x ∈ l := by
  induction l generalizing x with
  | nil => exact .inl rfl
  | cons z l ih =>
    rw [List.foldl_cons]
    rcases ih (min x z) with h | h
    · rw [h]
      rcases Int.le_total x z with hz | hz
      · left; omega
      · right; rw [show min x z = z by omega]; exact List.mem_cons_self
    · right; exact List.mem_cons_of_mem _ h
theorem minL_le {l : List Int} {y : Int} (h : y ∈ l) : minL l ≤ y := by
  cases l with
  | nil => simp at h
  | cons x l =>
    obtain ⟨h1, h2⟩ := foldl_min_le l x
    rcases List.mem_cons.1 h with rfl | h
    · exact h1
    · exact h2 y h
theorem minL_mem {l : List Int} (h : l ≠ []) : minL l ∈ l := by
  cases l with
  | nil => exact absurd rfl h
  | cons x l =>
    rcases foldl_min_mem l x with h | h
    · show l.foldl min x ∈ _
      rw [h]; exact List.mem_cons_self
    · exact List.mem_cons_of_mem _ h
theorem foldl_max_le (l : List Int) (x : Int) : x ≤ l.foldl max x ∧ ∀ y ∈ l, y ≤ l.foldl max x := by
  induction l generalizing x with
  | nil => exact ⟨Int.le_refl _, by simp⟩
  | cons z l ih =>
    rw [List.foldl_cons]
    obtain ⟨h1, h2⟩ := ih (max x z)
    refine ⟨by omega, fun y hy => ?_⟩
    rcases List.mem_cons.1 hy with rfl | hy
    · omega
    · exact h2 y hy
theorem foldl_max_mem (l : List Int) (x : Int) : l.foldl max x = x ∨ l.foldl max x ∈ l := by
  induction l generalizing x with
  | nil => exact .inl rfl
  | cons z l ih =>
    rw [List.foldl_cons]
    rcases ih (max x z) with h | h
    · rw [h]
      rcases Int.le_total z x with hz | hz
      · left; omega
      · right; rw [show max x z = z by omega]; exact List.mem_cons_self
    · right; exact List.mem_cons_of_mem _ h
theorem le_maxL {l : List Int} {y : Int} (h : y ∈ l) : y ≤ maxL l := by
  cases l with
  | nil => simp at h
  | cons x l =>
    obtain ⟨h1, h2⟩ := foldl_max_le l x
    rcases List.mem_cons.1 h with rfl | h
    · exact h1
    · exact h2 y h
theorem maxL_mem {l : List Int} (h : l ≠ []) : maxL l ∈ l := by
  cases l with
  | nil => exact absurd rfl h
  | cons x l =>
    rcases foldl_max_mem l x with h | h
    · show l.foldl max x ∈ _
      rw [h]; exact List.mem_cons_self
    · exact List.mem_cons_of_mem _ h
theorem minL_is {l : List Int} {x : Int} (h : x ∈ l) (hx : ∀ y ∈ l, x ≤ y) : minL l = x := by
  have h1 := minL_le h
  have h2 := hx _ (minL_mem (List.ne_nil_of_mem h))
  omega
theorem maxL_is {l : List Int} {x : Int} (h : x ∈ l) (hx : ∀ y ∈ l, y ≤ x) : maxL l = x := by
  have h1 := le_maxL h
  have h2 := hx _ (maxL_mem (List.ne_nil_of_mem h))
  omega

theorem studyE_ok {b : Bk} {p : Bool} (h : valid b = true) (hp : p = true) (ht : truths b ≠ []) : studyE b p = 0 := by simp [studyE, h, hp, ht]
theorem secs_le {b : Bk} (h : valid b = true) : 1 ≤ b.secs.length ∧ b.secs.length ≤ 4 := by
  simp only [valid, Bool.and_eq_true] at h
  exact sized_secs h.1.1.1.1
theorem days_le {b : Bk} (h : valid b = true) : 1 ≤ b.days ∧ b.days ≤ 30 := by
  simp only [valid, Bool.and_eq_true] at h
  exact sized_days h.1.1.1.1
theorem sec_facts {b : Bk} (h : valid b = true) {s : Nat} (hs : s < b.secs.length) : 0 ≤ (secAt b s).thick.lo ∧ (secAt b s).thick.lo ≤ (secAt b s).thick.hi ∧ (secAt b s).thick.hi ≤ 200 ∧ 0 ≤ (secAt b s).wear.lo ∧ (secAt b s).wear.lo ≤ (secAt b s).wear.hi ∧ (secAt b s).wear.hi ≤ 3 := by
  have := okSec_at h hs
  simp [okSec, isSpan] at this
  omega

/-- A truth's number is attained at both ends of each place's wear. -/
theorem plain_min {b : Bk} (h : valid b = true) {s : Nat} (hs : s < b.secs.length) (F : Tr → Int) (c : Int) (d : Nat) (hF : ∀ t ∈ truths (plain b), F t = c - d * t.wear s) :
    minL ((truths (plain b)).map F) = c - d * (secAt b s).wear.hi := by
  have hn := secs_le h
  refine minL_is ?_ ?_
  · obtain ⟨u, hu, hw⟩ := plain_truth h (fun q => (secAt b q).wear.hi) fun q hq => by have := sec_facts h hq; omega
    exact List.mem_map.2 ⟨u, hu, by rw [hF u hu, hw s hs]⟩
  · intro y hy
    obtain ⟨u, hu, rfl⟩ := List.mem_map.1 hy
    rw [hF u hu]
    have := (truths_is hu).wear s hs
    have := Int.mul_le_mul_of_nonneg_left this.2 (Int.natCast_nonneg d)
    show _ - (d : Int) * (secAt (plain b) s).wear.hi ≤ _
    omega
theorem plain_max {b : Bk} (h : valid b = true) {s : Nat} (hs : s < b.secs.length) (F : Tr → Int) (c : Int) (d : Nat) (hF : ∀ t ∈ truths (plain b), F t = c - d * t.wear s) :
    maxL ((truths (plain b)).map F) = c - d * (secAt b s).wear.lo := by
  refine maxL_is ?_ ?_
  · obtain ⟨u, hu, hw⟩ := plain_truth h (fun q => (secAt b q).wear.lo) fun q hq => by have := sec_facts h hq; omega
    exact List.mem_map.2 ⟨u, hu, by rw [hF u hu, hw s hs]⟩
  · intro y hy
    obtain ⟨u, hu, rfl⟩ := List.mem_map.1 hy
    rw [hF u hu]
    have := (truths_is hu).wear s hs
    have := Int.mul_le_mul_of_nonneg_left this.1 (Int.natCast_nonneg d)
    show _ ≤ _ - (d : Int) * (secAt (plain b) s).wear.lo
    omega
theorem plain_lo {b : Bk} (h : valid b = true) {s : Nat} (hs : s < b.secs.length) (d : Nat) {t : Tr} (ht : t ∈ truths (plain b)) : (thickOn (plain b) s d t).lo = (secAt b s).thick.lo - d * t.wear s := by
  have hn := secs_le h
  show (t.first s).lo - lost (plain b) t.wear s d = _
  rw [((truths_is ht).first s hs).1, plain_surveyed, plain_lost _ _ _ _ (by omega)]
theorem plain_hi {b : Bk} (h : valid b = true) {s : Nat} (hs : s < b.secs.length) (d : Nat) {t : Tr} (ht : t ∈ truths (plain b)) : (thickOn (plain b) s d t).hi = (secAt b s).thick.hi - d * t.wear s := by
  have hn := secs_le h
  show (t.first s).hi - lost (plain b) t.wear s d = _
  rw [((truths_is ht).first s hs).1, plain_surveyed, plain_lost _ _ _ _ (by omega)]

theorem plain_thick {b : Bk} (h : valid b = true) {s d : Nat} (hs : s < b.secs.length) (hd : (d : Int) ≤ b.days) :
    thickSp (plain b) s d = ⟨(secAt b s).thick.lo - d * (secAt b s).wear.hi, (secAt b s).thick.hi - d * (secAt b s).wear.lo⟩ := by
  have h1 : (isSection (plain b) s && isDay (plain b) d) = true := by
    simp only [isSection, isDay, Bool.and_eq_true, decide_eq_true_eq]
    exact ⟨⟨Int.natCast_nonneg _, Int.ofNat_lt.2 hs⟩, Int.natCast_nonneg _, hd⟩
  rw [thickSp, if_pos (studyE_ok (plain_valid h) h1 (plain_some h)), Int.toNat_natCast, Int.toNat_natCast]
  congr 1
  · exact plain_min h hs _ _ d fun t ht => plain_lo h hs d ht
  · exact plain_max h hs _ _ d fun t ht => plain_hi h hs d ht
theorem plain_wear {b : Bk} (h : valid b = true) {s : Nat} (hs : s < b.secs.length) :
    wearSp (plain b) s = (secAt b s).wear := by
  have h1 : isSection (plain b) s = true := by
    simp [isSection, plain]
    omega
  rw [wearSp, if_pos (studyE_ok (plain_valid h) h1 (plain_some h)), Int.toNat_natCast]
  have e1 : minL ((truths (plain b)).map fun t => (wearOf s t).lo) = (secAt b s).wear.lo := by
    refine minL_is ?_ ?_
    · obtain ⟨u, hu, hw⟩ := plain_truth h (fun q => (secAt b q).wear.lo) fun q hq => by have := sec_facts h hq; omega
      exact List.mem_map.2 ⟨u, hu, hw s hs⟩
    · intro y hy
      obtain ⟨u, hu, rfl⟩ := List.mem_map.1 hy
      exact ((truths_is hu).wear s hs).1
  have e2 : maxL ((truths (plain b)).map fun t => (wearOf s t).hi) = (secAt b s).wear.hi := by
    refine maxL_is ?_ ?_
    · obtain ⟨u, hu, hw⟩ := plain_truth h (fun q => (secAt b q).wear.hi) fun q hq => by have := sec_facts h hq; omega
      exact List.mem_map.2 ⟨u, hu, hw s hs⟩
    · intro y hy
      obtain ⟨u, hu, rfl⟩ := List.mem_map.1 hy
      exact ((truths_is hu).wear s hs).2
  rw [e1, e2]
/-- The day on which it is too thin first, if any. -/
def wantOf (b : Bk) (s : Nat) : Int :=
  if (secAt b s).thick.lo < b.rule then 0 else if 0 < (secAt b s).wear.hi then min (b.days + 1) (((secAt b s).thick.lo - b.rule) / (secAt b s).wear.hi + 1) else b.days + 1
theorem plain_may {b : Bk} (h : valid b = true) {s : Nat} (hs : s < b.secs.length) (d : Nat) : mayThin (plain b) s (truths (plain b)) d = decide ((secAt b s).thick.lo - d * (secAt b s).wear.hi < b.rule) := by
  rw [mayThin, plain_min h hs _ _ d fun t ht => plain_lo h hs d ht]
  rfl
theorem plain_thin {b : Bk} (h : valid b = true) {s : Nat} (hs : s < b.secs.length) :
    thinR (plain b) s = if b.days < wantOf b s then (0, 4) else (wantOf b s, 0) := by
  have h1 : isSection (plain b) s = true := by
    simp [isSection, plain]
    omega
  have hd := days_le h
  have hsf := sec_facts h hs
  rw [thinR, if_pos (studyE_ok (plain_valid h) h1 (plain_some h)), Int.toNat_natCast]
  have hF := plain_may h hs
  have hdays : (plain b).days = b.days := rfl
  rw [dayOf, hdays]
  generalize hf : mayThin (plain b) s (truths (plain b)) = F at *
  by_cases h2 : (secAt b s).thick.lo < b.rule
  · have hw : wantOf b s = 0 := by rw [wantOf, if_pos h2]
    rw [firstDay_found (k := 0) (by omega) (by rw [hF]; simp; omega) (by omega), hw]
    simp
    omega
  · by_cases h3 : 0 < (secAt b s).wear.hi
    · obtain ⟨q, hq⟩ : ∃ q : Nat, (q : Int) = ((secAt b s).thick.lo - b.rule) / (secAt b s).wear.hi := ⟨_, Int.toNat_of_nonneg (Int.ediv_nonneg (by omega) (by omega))⟩
      have hw : wantOf b s = min (b.days + 1) ((q : Int) + 1) := by rw [wantOf, if_neg h2, if_pos h3, hq]
      have hm1 : (q : Int) * (secAt b s).wear.hi ≤ (secAt b s).thick.lo - b.rule := by rw [hq]; exact Int.ediv_mul_le _ (by omega)
      have hm2 : (secAt b s).thick.lo - b.rule < ((q : Int) + 1) * (secAt b s).wear.hi := by rw [hq]; exact Int.lt_ediv_add_one_mul_self _ h3
      have hbelow : ∀ j : Nat, j ≤ q → F j = false := by
        intro j hj
        rw [hF]
        have := Int.mul_le_mul_of_nonneg_right (show (j : Int) ≤ q by omega) (show 0 ≤ (secAt b s).wear.hi by omega)
        simp
        omega
      have hat : F (q + 1) = true := by
        rw [hF]
        have : ((q + 1 : Nat) : Int) = (q : Int) + 1 := by omega
        rw [this]
        simp
        omega
      by_cases h4 : (q : Int) + 1 ≤ b.days
      · rw [firstDay_found (k := q + 1) (by omega) hat (fun j hj => hbelow j (by omega)), hw, if_pos (by omega), if_neg (by omega)]
        congr 1
        omega
      · rw [firstDay_none (fun j hj => hbelow j (by omega)), hw, if_neg (by omega), if_pos (by omega)]
    · have hw : wantOf b s = b.days + 1 := by rw [wantOf, if_neg h2, if_neg h3]
      have h5 : (secAt b s).wear.hi = 0 := by omega
      rw [firstDay_none (fun j _ => by rw [hF, h5]; simp; omega), hw, if_neg (by omega), if_pos (by omega)]

end Go.Proofs.YtkfahochpnggbaaGreat.Ch
