/- Texts on the program that the proof leans on, part 60. -/
import Derived.Test.YtkfahochpnggbaaGreatYca
import Derived.Test.YtkfahochpnggbaaGreatYbi
import Derived.Test.YtkfahochpnggbaaGreatYce
set_option linter.unusedVariables false
set_option linter.unusedSimpArgs false

/- Mathematics of ChainTurn: a turn more; the best day to turn. -/
namespace Go.Proofs.YtkfahochpnggbaaGreat.Ch

/-! Truths hang on how thick sections are found alone. -/
theorem settle_congr {b b' : Bk} (hf : ∀ f s, surveyed b' f s = surveyed b f s) (l : List Nat) : ∀ t, settle b' t l = settle b t l := by
  induction l with
  | nil => intro t; rfl
  | cons s r ih => intro t; simp only [settle, hf, ih]
theorem worn_congr {b b' : Bk} (hs : b'.secs = b.secs) (hf : ∀ f s, surveyed b' f s = surveyed b f s) : ∀ m, worn b' m = worn b m := by
  intro m
  induction m with
  | zero => rfl
  | succ m ih =>
    funext t
    have hsec : ∀ p, secAt b' p = secAt b p := fun p => by simp only [secAt, hs]
    have hw : ∀ p, wears b' p = wears b p := fun p => by simp only [wears, hsec]
    simp only [worn, hs, ih, hsec, hw]
    have key : ∀ (p : Nat) (lo : Int) (k : Nat) (t : Tr), wearLoop b' (worn b m) p lo k t = wearLoop b (worn b m) p lo k t := by
      intro p lo k
      induction k with
      | zero => intro t; rfl
      | succ k ihk =>
        intro t
        simp only [wearLoop, ihk, tryWear, settle_congr hf, hs]
    exact key _ _ _ _
theorem truths_congr {b b' : Bk} (hs : b'.secs = b.secs) (hf : ∀ f s, surveyed b' f s = surveyed b f s) : truths b' = truths b := by
  simp only [truths, worn_congr hs hf, hs]
theorem lain_upto {b : Bk} {L T0 : List Int} (s : Int) (p : Nat) : ∀ d : Nat, (∀ e : Nat, e < d → turnedL e L = turnedL e T0) → lain (withTurns b L) s d p = lain (withTurns b T0) s d p := by
  intro d
  induction d with
  | zero => intro _; rfl
  | succ d ih =>
    intro h
    have : place (withTurns b L) s d = place (withTurns b T0) s d := by
      unfold place turned
      rw [show (withTurns b L).turns = L from rfl, show (withTurns b T0).turns = T0 from rfl, h d (by omega)]
      rfl
    simp only [lain, ih (fun e he => h e (by omega)), this]
theorem surveyed_turns {b : Bk} {L : List Int} (h : ∀ x ∈ b.svs, ∀ e : Nat, (e : Int) < x.day → turnedL e L = turnedL e b.turns) (f : Nat → Int) (s : Nat) : surveyed (withTurns b L) f s = surveyed b f s := by
  have hr : ∀ x ∈ b.svs, read (withTurns b L) f x = read b f x := fun x hx => by
    have hl : ∀ p, lain (withTurns b L) x.sec x.day.toNat p = lain b x.sec x.day.toNat p := fun p => lain_upto (b := b) (T0 := b.turns) x.sec p _ (fun e he => h x hx e (by omega))
    simp only [read, lost, hl]
  show surveyedL (withTurns b L) f s _ b.svs = surveyedL b f s _ b.svs
  unfold surveyedL
  suffices ∀ (l : List Sv), (∀ x ∈ l, read (withTurns b L) f x = read b f x) → ∀ t : Sp, l.foldl (fun u x => if x.sec = (s : Int) then meet u (read (withTurns b L) f x) else u) t = l.foldl (fun u x => if x.sec = (s : Int) then meet u (read b f x) else u) t from this b.svs hr _
  intro l
  induction l with
  | nil => intro _ t; rfl
  | cons x l ih =>
    intro hl t
    rw [List.foldl_cons, List.foldl_cons, hl x List.mem_cons_self, ih (fun y hy => hl y (List.mem_cons_of_mem _ hy))]

/-! One number more in a list that climbs. -/
def ins (day : Int) : List Int → List Int
  | [] => [day]
  | x :: l => if day < x then day :: x :: l else x :: ins day l
theorem mem_ins {day x : Int} {l : List Int} : x ∈ ins day l ↔ x = day ∨ x ∈ l := by
  induction l with
  | nil => simp [ins]
  | cons y l ih =>
    unfold ins
    split
    · simp
    · rw [List.mem_cons, ih, List.mem_cons]
      constructor
      · rintro (h | h | h) <;> simp [h]
      · rintro (h | h | h) <;> simp [h]
theorem ins_len (day : Int) (l : List Int) : (ins day l).length = l.length + 1 := by
  induction l with
  | nil => rfl
  | cons y l ih =>
    unfold ins
    split
    · rfl
    · simp [ih]
theorem ins_ok {hi day : Int} (hd : day ≤ hi) : ∀ {l : List Int} {a : Int}, turnsOk hi a l = true → a < day → day ∉ l → turnsOk hi a (ins day l) = true := by
  intro l
  induction l with
  | nil => intro a _ h _; simp [ins, turnsOk]; omega
  | cons y l ih =>
    intro a hl ha hm
    simp only [turnsOk, Bool.and_eq_true] at hl
    have h1 := hl.1
    simp at h1
    have hne : day ≠ y := fun e => hm (by rw [e]; exact List.mem_cons_self)
    unfold ins
    split
    · simp only [turnsOk, Bool.and_eq_true]
      refine ⟨by simp; omega, ?_, hl.2⟩
      simp
      omega
    · simp only [turnsOk, Bool.and_eq_true]
      exact ⟨hl.1, ih hl.2 (by omega) (fun h => hm (List.mem_cons_of_mem _ h))⟩
theorem ok_lt {hi : Int} : ∀ {l : List Int} {a : Int}, turnsOk hi a l = true → ∀ x ∈ l, a < x ∧ x ≤ hi := by
  intro l
  induction l with
  | nil => intro a _ x hx; simp at hx
  | cons y l ih =>
    intro a h x hx
    simp only [turnsOk, Bool.and_eq_true] at h
    have h1 := h.1
    simp at h1
    rcases List.mem_cons.1 hx with rfl | hx
    · omega
    · have := ih h.2 x hx
      omega
theorem ok_ext {hi : Int} : ∀ {l m : List Int} {a : Int}, turnsOk hi a l = true → turnsOk hi a m = true → (∀ x, x ∈ l ↔ x ∈ m) → l = m := by
  intro l
  induction l with
  | nil =>
    intro m a _ _ h
    cases m with
    | nil => rfl
    | cons y m => have := (h y).2 List.mem_cons_self; simp at this
  | cons x l ih =>
    intro m a hl hm h
    cases m with
    | nil => have := (h x).1 List.mem_cons_self; simp at this
    | cons y m =>
      simp only [turnsOk, Bool.and_eq_true] at hl hm
      have hxy : x = y := by
        rcases List.mem_cons.1 ((h x).1 List.mem_cons_self) with e | e
        · exact e
        · rcases List.mem_cons.1 ((h y).2 List.mem_cons_self) with e' | e'
          · exact e'.symm
          · have := (ok_lt hm.2 x e).1
            have := (ok_lt hl.2 y e').1
            omega
      subst hxy
      congr 1
      refine ih hl.2 hm.2 (fun z => ?_)
      constructor
      · intro hz
        rcases List.mem_cons.1 ((h z).1 (List.mem_cons_of_mem _ hz)) with rfl | e
        · exact absurd (ok_lt hl.2 z hz).1 (by omega)
        · exact e
      · intro hz
        rcases List.mem_cons.1 ((h z).2 (List.mem_cons_of_mem _ hz)) with rfl | e
        · exact absurd (ok_lt hm.2 z hz).1 (by omega)
        · exact e
theorem turned_cons (d x : Int) (l : List Int) : ∀ t : Bool, l.foldl (fun t x => if x ≤ d then !t else t) (if x ≤ d then !t else t) = (if x ≤ d then !(l.foldl (fun t x => if x ≤ d then !t else t) t) else l.foldl (fun t x => if x ≤ d then !t else t) t) := by
  induction l with
  | nil => intro t; rfl
  | cons y l ih =>
    intro t
    simp only [List.foldl_cons]
    have e : (if y ≤ d then !(if x ≤ d then !t else t) else (if x ≤ d then !t else t)) = (if x ≤ d then !(if y ≤ d then !t else t) else (if y ≤ d then !t else t)) := by
      by_cases h1 : x ≤ d <;> by_cases h2 : y ≤ d <;> simp [h1, h2]
    rw [e, ih]
theorem turned_ins (d day : Int) (l : List Int) : turnedL d (ins day l) = turnedL d (l ++ [day]) := by
  have key : ∀ (l : List Int) (t : Bool), (ins day l).foldl (fun t x => if x ≤ d then !t else t) t = (if day ≤ d then !(l.foldl (fun t x => if x ≤ d then !t else t) t) else l.foldl (fun t x => if x ≤ d then !t else t) t) := by
    intro l
    induction l with
    | nil => intro t; rfl
    | cons y l ih =>
      intro t
      unfold ins
      split
      · rw [List.foldl_cons, turned_cons]
      · rw [List.foldl_cons, ih, List.foldl_cons]
  unfold turnedL
  rw [key, List.foldl_append]
  rfl
/-- The days up to one on which there is a turn, with one more. -/
def pickTo (turns : List Int) (day : Int) (k : Nat) : List Int := ((List.range k).filter fun i : Nat => decide ((i : Int) + 1 = day) || decide ((i : Int) + 1 ∈ turns)).map fun i : Nat => (i : Int) + 1
theorem pickTo_yes {turns : List Int} {day : Int} {k : Nat} (h : (k : Int) + 1 = day ∨ (k : Int) + 1 ∈ turns) : pickTo turns day (k + 1) = pickTo turns day k ++ [(k : Int) + 1] := by
  simp [pickTo, List.range_succ, h]
theorem pickTo_no {turns : List Int} {day : Int} {k : Nat} (h : ¬ ((k : Int) + 1 = day ∨ (k : Int) + 1 ∈ turns)) : pickTo turns day (k + 1) = pickTo turns day k := by
  simp only [pickTo, List.range_succ, List.filter_append]
  have : ((decide ((k : Int) + 1 = day) || decide ((k : Int) + 1 ∈ turns)) = true) ↔ ((k : Int) + 1 = day ∨ (k : Int) + 1 ∈ turns) := by simp
  simp [h]
theorem mem_pickTo {turns : List Int} {day x : Int} {k : Nat} : x ∈ pickTo turns day k ↔ 1 ≤ x ∧ x ≤ k ∧ (x = day ∨ x ∈ turns) := by
  simp only [pickTo, List.mem_map, List.mem_filter, List.mem_range, Bool.or_eq_true, decide_eq_true_eq]
  constructor
  · rintro ⟨i, ⟨h1, h2⟩, rfl⟩
    exact ⟨by omega, by omega, h2⟩
  · rintro ⟨h1, h2, h3⟩
    exact ⟨(x - 1).toNat, ⟨by omega, by rw [show (((x - 1).toNat : Nat) : Int) + 1 = x by omega]; exact h3⟩, by omega⟩
theorem pickTo_ok (turns : List Int) (day : Int) (k : Nat) : turnsOk k 0 (pickTo turns day k) = true := by
  induction k with
  | zero => rfl
  | succ k ih =>
    have ih2 := turnsOk_hi (show (k : Int) ≤ ((k + 1 : Nat) : Int) by omega) _ _ ih
    by_cases h : (k : Int) + 1 = day ∨ (k : Int) + 1 ∈ turns
    · rw [pickTo_yes h]
      refine turnsOk_append _ _ _ _ ih2 (fun y hy => ?_) (by omega) (by omega)
      have := (mem_pickTo.1 hy).2.1
      omega
    · rw [pickTo_no h]; exact ih2
theorem pickTo_len (turns : List Int) (day : Int) (k : Nat) : (pickTo turns day k).length ≤ k := by
  unfold pickTo
  rw [List.length_map]
  exact Nat.le_trans (List.length_filter_le _ _) (by simp)
theorem pickTo_ins {turns : List Int} {day : Int} {N : Nat} (h : turnsOk N 0 turns = true) (h1 : 1 ≤ day) (h2 : day ≤ N) (h3 : day ∉ turns) : pickTo turns day N = ins day turns := by
  refine ok_ext (pickTo_ok turns day N) (ins_ok h2 h (by omega) h3) (fun x => ?_)
  rw [mem_pickTo, mem_ins]
  constructor
  · rintro ⟨-, -, h⟩; exact h
  · rintro (rfl | hx)
    · exact ⟨h1, h2, .inl rfl⟩
    · have := ok_lt h x hx
      exact ⟨by omega, by omega, .inr hx⟩

/-! What is told of the best day. -/
/-- How late a turn on a day makes it. -/
def lateS (b : Bk) (day : Int) : Int := soonest (withTurns b (b.turns ++ [day])) (truths b)
theorem turnFold_spec (b : Bk) (k : Nat) :
    (turnFold b (truths b) k = (0, soonest b (truths b)) ∧ ∀ o : Nat, o < k → canTurn b o = true → lateS b o ≤ soonest b (truths b)) ∨
    (∃ d : Nat, d < k ∧ turnFold b (truths b) k = ((d : Int), lateS b d) ∧ canTurn b d = true ∧ soonest b (truths b) < lateS b d ∧ ∀ o : Nat, o < k → canTurn b o = true → lateS b o < lateS b d ∨ (lateS b o = lateS b d ∧ d ≤ o)) := by
  induction k with
  | zero => exact .inl ⟨rfl, fun o ho => by omega⟩
  | succ k ih =>
    rw [turnFold_succ]
    by_cases hc : canTurn b k = true
    · rcases ih with ⟨h1, h2⟩ | ⟨d, hd, h1, h2, h3, h4⟩
      · rw [h1]
        by_cases hl : soonest b (truths b) < lateS b k
        · right
          refine ⟨k, by omega, by rw [turnStep, if_pos hc]; exact if_pos hl, hc, hl, fun o ho hco => ?_⟩
          by_cases e : o = k
          · subst e; exact .inr ⟨rfl, Nat.le_refl _⟩
          · have := h2 o (by omega) hco
            left
            omega
        · left
          refine ⟨by rw [turnStep, if_pos hc]; exact if_neg hl, fun o ho hco => ?_⟩
          by_cases e : o = k
          · subst e; omega
          · exact h2 o (by omega) hco
      · rw [h1]
        right
        by_cases hl : lateS b d < lateS b k
        · refine ⟨k, by omega, by rw [turnStep, if_pos hc]; exact if_pos hl, hc, by omega, fun o ho hco => ?_⟩
          by_cases e : o = k
          · subst e; exact .inr ⟨rfl, Nat.le_refl _⟩
          · rcases h4 o (by omega) hco with h5 | ⟨h5, _⟩
            · left; omega
            · left; omega
        · refine ⟨d, by omega, by rw [turnStep, if_pos hc]; exact if_neg hl, h2, h3, fun o ho hco => ?_⟩
          by_cases e : o = k
          · subst e
            by_cases e2 : lateS b o = lateS b d
            · exact .inr ⟨e2, by omega⟩
            · left; omega
          · exact h4 o (by omega) hco
    · have hstep : ∀ acc, turnStep b (truths b) acc k = acc := fun acc => by rw [turnStep, if_neg hc]
      rw [hstep]
      rcases ih with ⟨h1, h2⟩ | ⟨d, hd, h1, h2, h3, h4⟩
      · left
        refine ⟨h1, fun o ho hco => ?_⟩
        by_cases e : o = k
        · subst e; exact absurd hco hc
        · exact h2 o (by omega) hco
      · right
        refine ⟨d, by omega, h1, h2, h3, fun o ho hco => ?_⟩
        by_cases e : o = k
        · subst e; exact absurd hco hc
        · exact h4 o (by omega) hco

end Go.Proofs.YtkfahochpnggbaaGreat.Ch

/- ChainTurn: what is told of turns; contracts of soonest. -/
namespace Go.Proofs.YtkfahochpnggbaaGreat
open Go.RowKit

namespace Ch
/-- A book with one turn more. -/
def turnB (b : Bk) (day : Int) : Bk := withTurns b (pickTo b.turns day b.days.toNat)
theorem turn_book {b : Bk} (h : valid b = true) (hl : b.turns.length < 4) {day : Int} (h1 : 1 ≤ day) (h2 : day ≤ b.days) (h3 : day ∉ b.turns) (h4 : ∀ x ∈ b.svs, x.day ≤ day) :
    valid (turnB b day) = true ∧ truths (turnB b day) = truths b ∧ soonest (turnB b day) (truths b) = lateS b day := by
  have hd := days_le h
  have hv := h
  simp only [valid, Bool.and_eq_true] at hv
  obtain ⟨⟨⟨⟨g1, g2⟩, g3⟩, g4⟩, g5⟩ := hv
  have hN : ((b.days.toNat : Nat) : Int) = b.days := by omega
  have hturns : turnsOk (b.days.toNat : Nat) 0 b.turns = true := by rw [hN]; exact g4
  have hins := pickTo_ins hturns h1 (by omega) h3
  have hT : ∀ d, turnedL d (pickTo b.turns day b.days.toNat) = turnedL d (b.turns ++ [day]) := fun d => by rw [hins, turned_ins]
  refine ⟨?_, ?_, ?_⟩
  · simp only [valid, Bool.and_eq_true]
    refine ⟨⟨⟨⟨?_, g2⟩, g3⟩, ?_⟩, g5⟩
    · have hlen : (pickTo b.turns day b.days.toNat).length = b.turns.length + 1 := by rw [hins, ins_len]
      simp [sized, bnds, between, turnB, withTurns, hlen] at g1 ⊢
      omega
    · have := pickTo_ok b.turns day b.days.toNat
      rw [hN] at this
      exact this
  · refine truths_congr rfl (fun f s => surveyed_turns (fun x hx e he => ?_) f s)
    rw [hT]
    have := h4 x hx
    unfold turnedL
    rw [List.foldl_append]
    simp only [List.foldl_cons, List.foldl_nil]
    rw [if_neg (by omega)]
  · have hlain : ∀ s d p, lain (turnB b day) s d p = lain (withTurns b (b.turns ++ [day])) s d p := fun s d p => lain_turns (b := b) hT s d p
    have hmay : ∀ s, mayThin (turnB b day) s (truths b) = mayThin (withTurns b (b.turns ++ [day])) s (truths b) := fun s => by
      funext d
      simp only [mayThin, thickOn, lost, hlain]
      rfl
    unfold lateS soonest firsts
    simp only [hmay]
    rfl
/-- The day of the last survey, 1 at least. -/
def fromOf (l : List Sv) : Int := l.foldl (fun m x => max m x.day) 1
theorem fromOf_le (l : List Sv) (o : Int) : fromOf l ≤ o ↔ 1 ≤ o ∧ ∀ x ∈ l, x.day ≤ o := by
  unfold fromOf
  suffices ∀ m : Int, l.foldl (fun m x => max m x.day) m ≤ o ↔ m ≤ o ∧ ∀ x ∈ l, x.day ≤ o from this 1
  induction l with
  | nil => intro m; simp
  | cons y l ih =>
    intro m
    rw [List.foldl_cons, ih]
    constructor
    · rintro ⟨h1, h2⟩
      refine ⟨by omega, fun x hx => ?_⟩
      rcases List.mem_cons.1 hx with rfl | hx
      · omega
      · exact h2 x hx
    · rintro ⟨h1, h2⟩
      have := h2 y List.mem_cons_self
      exact ⟨by omega, fun x hx => h2 x (List.mem_cons_of_mem _ hx)⟩
theorem canTurn_iff (b : Bk) (o : Int) (h1 : 0 ≤ o) : canTurn b o = true ↔ fromOf b.svs ≤ o ∧ o ∉ b.turns := by
  rw [fromOf_le]
  simp only [canTurn, Bool.and_eq_true, Bool.not_eq_true', Bool.or_eq_false_iff, decide_eq_false_iff_not, List.all_eq_true]
  constructor
  · rintro ⟨⟨h2, h3⟩, h4⟩
    exact ⟨⟨by omega, fun x hx => by have := h4 x hx; omega⟩, h3⟩
  · rintro ⟨⟨h2, h3⟩, h4⟩
    exact ⟨⟨by omega, h4⟩, fun x hx => by have := h3 x hx; omega⟩
/-- What is told of the best day. -/
theorem turn_facts {b : Bk} (h : valid b = true) (hne : truths b ≠ []) {day e : Int} (ht : turnR b = (day, e)) :
    (e = 4 ∧ day = 0 ∧ ∀ o : Int, fromOf b.svs ≤ o → o ≤ b.days → o ∉ b.turns → lateS b o ≤ soonest b (truths b)) ∨
    (e = 0 ∧ fromOf b.svs ≤ day ∧ day ≤ b.days ∧ day ∉ b.turns ∧ soonest b (truths b) < lateS b day ∧
      ∀ o : Int, fromOf b.svs ≤ o → o ≤ b.days → o ∉ b.turns → lateS b o < lateS b day ∨ (lateS b o = lateS b day ∧ day ≤ o)) := by
  have hd := days_le h
  have hf1 : 1 ≤ fromOf b.svs := ((fromOf_le b.svs (fromOf b.svs)).1 (Int.le_refl _)).1
  rw [turnR, if_pos (studyE_ok h rfl hne)] at ht
  rcases turnFold_spec b (b.days.toNat + 1) with ⟨h1, h2⟩ | ⟨d, hdk, h1, h2, h3, h4⟩
  · rw [h1, if_pos rfl] at ht
    injection ht with e1 e2
    refine .inl ⟨e2.symm, e1.symm, fun o g1 g2 g3 => ?_⟩
    obtain ⟨k, rfl⟩ : ∃ k : Nat, o = k := ⟨o.toNat, by omega⟩
    exact h2 k (by omega) ((canTurn_iff b k (by omega)).2 ⟨g1, g3⟩)
  · obtain ⟨c1, c2⟩ := (canTurn_iff b d (by omega)).1 h2
    have hd0 : (d : Int) ≠ 0 := by omega
    rw [h1, if_neg hd0] at ht
    injection ht with e1 e2
    subst e1
    refine .inr ⟨e2.symm, c1, by omega, c2, h3, fun o g1 g2 g3 => ?_⟩
    obtain ⟨k, rfl⟩ : ∃ k : Nat, o = k := ⟨o.toNat, by omega⟩
    rcases h4 k (by omega) ((canTurn_iff b k (by omega)).2 ⟨g1, g3⟩) with h5 | ⟨h5, h6⟩
    · exact .inl h5
    · exact .inr ⟨h5, by omega⟩
/-- The first day on which any section may be too thin; -1, if it cannot be told. -/
def lawSoon (b : Bk) : Int := if truths b = [] then -1 else soonest b (truths b)
theorem firsts_bd (b : Bk) (l : List Tr) (k : Nat) (hd : 0 ≤ b.days) : 0 ≤ (firsts b l k).foldl min (b.days + 1) ∧ (firsts b l k).foldl min (b.days + 1) ≤ b.days + 1 := by
  induction k with
  | zero => simp [firsts]; omega
  | succ k ih =>
    rw [firsts_succ, List.foldl_append]
    simp only [List.foldl_cons, List.foldl_nil]
    omega
theorem thin_first {b : Bk} (h : valid b = true) (hne : truths b ≠ []) {s : Nat} (hs : s < b.secs.length) {x y : Int} (hx : thinR b s = (x, y)) :
    (y = 0 ∧ x = (firstDay (mayThin b s (truths b)) (b.days.toNat + 1) : Nat) ∧ x ≤ b.days ∧ 0 ≤ x) ∨ (y = 4 ∧ b.days + 1 ≤ ((firstDay (mayThin b s (truths b)) (b.days.toNat + 1) : Nat) : Int)) := by
  have hd := days_le h
  have h0 : isSection b s = true := by simp [isSection]; omega
  rw [thinR, if_pos (studyE_ok h h0 hne), Int.toNat_natCast] at hx
  unfold dayOf at hx
  split at hx
  · injection hx with e1 e2
    exact .inl ⟨e2.symm, e1.symm, by omega, by omega⟩
  · injection hx with e1 e2
    exact .inr ⟨e2.symm, by omega⟩
end Ch

set_option maxRecDepth 100000 in
set_option maxHeartbeats 2000000 in
theorem soonestLaw_any (b : Ch.Bk) (S T V : Value) (w : World) (hb : RB w w.heap.size b S T V) (hval : Ch.valid b = true) :
    Calls Tryz.prog 44 #[vBk S T V b.rule b.days] w fun e w' => e = .returned (I (Ch.lawSoon b)) ∧ Below w.heap.size w w' := by
  obtain ⟨A0, k0, rfl⟩ := hb.secs.form
  obtain ⟨A1, k1, rfl⟩ := hb.turns.form
  obtain ⟨A2, k2, rfl⟩ := hb.svs.form
  have hn := Ch.secs_le hval
  have hd := Ch.days_le hval
  have hd1w : IntKind.i64.wrap (b.days + 1) = b.days + 1 := IntWalk.i64_in _ (by omega)
  have HRB := Lib.hid (show ∀ W', Below w.heap.size w W' → RB W' W'.heap.size b (.slice A0 b.secs.length k0) (.slice A1 b.turns.length k1) (.slice A2 b.svs.length k2) from fun W' h => (hb.below h (Nat.le_refl _)).more h.size)
  have HVAL := Lib.hid hval
  clear hb hval
  go_enter Tryz.func44, Tryz.ntmps44
  go_wp2_with fail
  refine name_world ?_
  intro W1 hW1
  have hb1 : Below w.heap.size w W1 := by rw [hW1]; exact (Below.refl _ _).alloc (Nat.le_refl _) _
  have rB : W1.heap[w.heap.size]? = some (.cells #[.slice A0 b.secs.length k0, .slice A1 b.turns.length k1, .slice A2 b.svs.length k2, I b.rule, I b.days] 26 (0, 0)) := by rw [hW1]; exact heap_at _ _ rfl
  have HB1 := Lib.hid hb1
  have RB1 := Lib.hid rB
  have lB := heap_lt rB
  clear hW1 hb1 rB
  go_loopw [3, 4] (fun dv i wr => ∃ k : Nat, k ≤ b.secs.length ∧ i = I k ∧ dv = I ((Ch.firsts b (Ch.truths b) k).foldl min (b.days + 1)) ∧ Below W1.heap.size W1 wr ∧ (k = 0 ∨ Ch.truths b ≠ [])) (fun _ i _ => b.secs.length - (intOf i).toNat)
  case atStart => exact ⟨0, Nat.zero_le _, rfl, rfl, Below.refl _ _, .inl rfl⟩
  case round =>
    obtain ⟨k, hk, rfl, rfl, hB, hor⟩ := hrel
    have hbd := Ch.firsts_bd b (Ch.truths b) k (by omega)
    obtain ⟨D, hD⟩ : ∃ D, (Ch.firsts b (Ch.truths b) k).foldl min (b.days + 1) = D := ⟨_, rfl⟩
    rw [hD] at hbd ⊢
    have rB := (hB.block _ lB).trans RB1.out
    have qB0 := cell_of_row wr _ 0 _ _ _ rB
    have qB1 := cell_of_row wr _ 1 _ _ _ rB
    have qB2 := cell_of_row wr _ 2 _ _ _ rB
    have qB3 := cell_of_row wr _ 3 _ _ _ rB
    have qB4 := cell_of_row wr _ 4 _ _ _ rB
    simp only [List.getElem?_toArray, List.getElem?_cons_zero, List.getElem?_cons_succ] at qB0 qB1 qB2 qB3 qB4
    have hbr := HB1.out.trans (hB.mono HB1.out.size)
    have HBr := Lib.hid hB
    have HBR := Lib.hid hbr
    have HOR := Lib.hid hor
    have HD := Lib.hid hD
    clear hB hbr hor rB hD
    by_cases hlt : k < b.secs.length
    · have hki : (k : Int) < b.secs.length := by omega
      go_wp2_with fail
      refine (Thin_any b _ _ _ k wr (HRB.out _ HBR.out)).mono ?_
      rintro e w2 ⟨rfl, hB2⟩
      have hB12 := HBr.out.trans (hB2.mono HBr.out.size)
      have HB12 := Lib.hid hB12
      have HBW2 := Lib.hid (HBR.out.trans (hB2.mono HBR.out.size))
      clear hB2 hB12 qB0 qB1 qB2 qB3 qB4
      obtain ⟨⟨x, y⟩, hx⟩ : ∃ s : Int × Int, Ch.thinR b k = s := ⟨_, rfl⟩
      rw [hx]
      by_cases ht : Ch.truths b = []
      · have h0 : Ch.isSection b k = true := by simp [Ch.isSection]; omega
        have hE : Ch.studyE b (Ch.isSection b k) = 12 := by simp [Ch.studyE, HVAL.out, h0, ht]
        rw [Ch.thinR, hE, if_neg (by omega)] at hx
        injection hx with e1 e2
        subst e1 e2
        have HT := Lib.hid ht
        clear ht h0 hE
        go_wp2_with fail
        go_ret
        exact ⟨ret_i (by rw [Ch.lawSoon, if_pos HT.out]), HBW2.out⟩
      · have hfd := Ch.thin_first HVAL.out ht hlt hx
        have HT := Lib.hid ht
        have hnext : (Ch.firsts b (Ch.truths b) (k + 1)).foldl min (b.days + 1) = min D ((Ch.firstDay (Ch.mayThin b k (Ch.truths b)) (b.days.toNat + 1) : Nat) : Int) := by
          rw [Ch.firsts_succ, List.foldl_append, HD.out]
          rfl
        have HNX := Lib.hid hnext
        clear ht hx hnext
        rcases hfd with ⟨rfl, hx1, hx2, hx3⟩ | ⟨rfl, hx1⟩
        · have HX1 := Lib.hid hx1
          clear hx1
          rcases Int.le_total D x with hle | hle
          · have hmn : min D x = D := by omega
            go_wp2_with fail
            all_goals
              go_roundw
              case rel => exact ⟨k + 1, by omega, by go_num, by rw [HNX.out, ← HX1.out]; simp; omega, HB12.out, .inr HT.out⟩
              case measure => simp [intOf]; omega
          · have hmn : min D x = x := by omega
            go_wp2_with fail
            all_goals
              go_roundw
              case rel => exact ⟨k + 1, by omega, by go_num, by rw [HNX.out, ← HX1.out]; simp; omega, HB12.out, .inr HT.out⟩
              case measure => simp [intOf]; omega
        · have hbdd := hbd.2
          go_wp2_with fail
          go_roundw
          case rel => exact ⟨k + 1, by omega, by go_num, by rw [HNX.out]; simp; omega, HB12.out, .inr HT.out⟩
          case measure => simp [intOf]; omega
    · obtain rfl : k = b.secs.length := by omega
      go_wp2_with fail
      go_ret
      have ht : Ch.truths b ≠ [] := by
        rcases HOR.out with h | h
        · omega
        · exact h
      exact ⟨ret_i (by rw [Ch.lawSoon, if_neg ht, ← HD.out]; rfl), HBR.out⟩

end Go.Proofs.YtkfahochpnggbaaGreat
