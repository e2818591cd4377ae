/- Texts on the program that the proof leans on, part 39. -/
import Derived.Test.YtjgpghaofhcfnaaYbg
set_option linter.unusedVariables false
set_option linter.unusedSimpArgs false

namespace Go.Proofs.Ytjgpghaofhcfnaa.Ld
def Fair (s : Sp) : Prop := s = none ∨ s.lo ≤ s.hi
theorem sp_ext {s t : Sp} (h1 : s.lo = t.lo) (h2 : s.hi = t.hi) : s = t := by
 cases s; cases t; simp at h1 h2; simp [h1, h2]
theorem empty_iff {s : Sp} (h : Fair s) : isEmpty s = true ↔ s = none := by
 rcases h with h | h
 · subst h; simp [isEmpty, none]
 · constructor
   · intro h2; simp [isEmpty] at h2; omega
   · rintro rfl; simp [isEmpty, none]
theorem fair_none : Fair none := .inl rfl
theorem fair_just (n : Int) : Fair (just n) := .inr (Int.le_refl _)
theorem just_ne (n : Int) : just n ≠ none := by
 intro h
 have h1 : (just n).lo = none.lo := by rw [h]
 have h2 : (just n).hi = none.hi := by rw [h]
 simp [just, none] at h1 h2
 omega
theorem ne_le {s : Sp} (h : Fair s) (hn : s ≠ none) : s.lo ≤ s.hi := by
 rcases h with h | h
 · exact absurd h hn
 · exact h
structure Joined (s t j : Sp) : Prop where
 fair : Fair j
 none_iff : j = none ↔ s = none ∧ t = none
 left : s ≠ none → j.lo ≤ s.lo ∧ s.hi ≤ j.hi
 right : t ≠ none → j.lo ≤ t.lo ∧ t.hi ≤ j.hi
 low : j ≠ none → (s ≠ none ∧ j.lo = s.lo) ∨ (t ≠ none ∧ j.lo = t.lo)
 high : j ≠ none → (s ≠ none ∧ j.hi = s.hi) ∨ (t ≠ none ∧ j.hi = t.hi)
theorem joined {s t : Sp} (hs : Fair s) (ht : Fair t) : Joined s t (join s t) := by
 unfold join
 by_cases h1 : s = none
 · rw [if_pos ((empty_iff hs).2 h1)]
   exact ⟨ht, ⟨fun h => ⟨h1, h⟩, fun h => h.2⟩, fun h => absurd h1 h, fun _ => ⟨Int.le_refl _, Int.le_refl _⟩, fun h => .inr ⟨h, rfl⟩, fun h => .inr ⟨h, rfl⟩⟩
 · rw [if_neg (fun h => h1 ((empty_iff hs).1 h))]
   by_cases h2 : t = none
   · rw [if_pos ((empty_iff ht).2 h2)]
     exact ⟨hs, ⟨fun h => absurd h h1, fun h => h.1⟩, fun _ => ⟨Int.le_refl _, Int.le_refl _⟩, fun h => absurd h2 h, fun h => .inl ⟨h, rfl⟩, fun h => .inl ⟨h, rfl⟩⟩
   · rw [if_neg (fun h => h2 ((empty_iff ht).1 h))]
     have a1 := ne_le hs h1
     have a2 := ne_le ht h2
     have hj : (min s.lo t.lo : Int) ≤ max s.hi t.hi := by omega
     refine ⟨.inr hj, ⟨fun h => ?_, fun h => absurd h.1 h1⟩, fun _ => ⟨?_, ?_⟩, fun _ => ⟨?_, ?_⟩, fun _ => ?_, fun _ => ?_⟩
     · have e1 : (min s.lo t.lo : Int) = 1 := congrArg Sp.lo h
       have e2 : (max s.hi t.hi : Int) = 0 := congrArg Sp.hi h
       omega
     · show min s.lo t.lo ≤ s.lo; omega
     · show s.hi ≤ max s.hi t.hi; omega
     · show min s.lo t.lo ≤ t.lo; omega
     · show t.hi ≤ max s.hi t.hi; omega
     · rcases Int.le_total s.lo t.lo with h | h
       · exact .inl ⟨h1, show min s.lo t.lo = s.lo by omega⟩
       · exact .inr ⟨h2, show min s.lo t.lo = t.lo by omega⟩
     · rcases Int.le_total s.hi t.hi with h | h
       · exact .inr ⟨h2, show max s.hi t.hi = t.hi by omega⟩
       · exact .inl ⟨h1, show max s.hi t.hi = s.hi by omega⟩
structure Hull (l : List Sp) (r : Sp) : Prop where
 fair : Fair r
 none_iff : r = none ↔ ∀ s ∈ l, s = none
 cover : ∀ s ∈ l, s ≠ none → r.lo ≤ s.lo ∧ s.hi ≤ r.hi
 low : r ≠ none → ∃ s ∈ l, s ≠ none ∧ r.lo = s.lo
 high : r ≠ none → ∃ s ∈ l, s ≠ none ∧ r.hi = s.hi
theorem hull_from (l : List Sp) : ∀ w : Sp, Fair w → (∀ s ∈ l, Fair s) → Hull (w :: l) (l.foldl join w) := by
 induction l with
 | nil =>
  intro w hw _
  exact ⟨hw, by simp, fun s hs _ => by simp at hs; subst hs; exact ⟨Int.le_refl _, Int.le_refl _⟩, fun h => ⟨w, by simp, h, rfl⟩, fun h => ⟨w, by simp, h, rfl⟩⟩
 | cons s l ih =>
  intro w hw hl
  have hj := joined hw (hl s List.mem_cons_self)
  have h := ih (join w s) hj.fair (fun x hx => hl x (List.mem_cons_of_mem _ hx))
  refine ⟨h.fair, ?_, ?_, ?_, ?_⟩
  · rw [List.foldl_cons, h.none_iff]
    constructor
    · intro h2 x hx
      have h3 := hj.none_iff.1 (h2 _ List.mem_cons_self)
      rcases List.mem_cons.1 hx with rfl | hx
      · exact h3.1
      · rcases List.mem_cons.1 hx with rfl | hx
        · exact h3.2
        · exact h2 x (List.mem_cons_of_mem _ hx)
    · intro h2 x hx
      rcases List.mem_cons.1 hx with rfl | hx
      · exact hj.none_iff.2 ⟨h2 _ List.mem_cons_self, h2 _ (List.mem_cons_of_mem _ List.mem_cons_self)⟩
      · exact h2 x (List.mem_cons_of_mem _ (List.mem_cons_of_mem _ hx))
  · intro x hx hn
    rw [List.foldl_cons]
    have hjn : ∀ {y}, y ≠ none → y = w ∨ y = s → join w s ≠ none := by
     intro y hy h2 h3
     have h4 := hj.none_iff.1 h3
     rcases h2 with rfl | rfl
     · exact hy h4.1
     · exact hy h4.2
    rcases List.mem_cons.1 hx with rfl | hx
    · have h2 := h.cover _ List.mem_cons_self (hjn hn (.inl rfl))
      have h3 := hj.left hn
      omega
    · rcases List.mem_cons.1 hx with rfl | hx
      · have h2 := h.cover _ List.mem_cons_self (hjn hn (.inr rfl))
        have h3 := hj.right hn
        omega
      · exact h.cover x (List.mem_cons_of_mem _ hx) hn
  · intro hn
    obtain ⟨x, hx, h1, h2⟩ := h.low hn
    rw [List.foldl_cons, h2]
    rcases List.mem_cons.1 hx with rfl | hx
    · rcases hj.low h1 with ⟨h3, h4⟩ | ⟨h3, h4⟩
      · exact ⟨w, List.mem_cons_self, h3, h4⟩
      · exact ⟨s, List.mem_cons_of_mem _ List.mem_cons_self, h3, h4⟩
    · exact ⟨x, List.mem_cons_of_mem _ (List.mem_cons_of_mem _ hx), h1, rfl⟩
  · intro hn
    obtain ⟨x, hx, h1, h2⟩ := h.high hn
    rw [List.foldl_cons, h2]
    rcases List.mem_cons.1 hx with rfl | hx
    · rcases hj.high h1 with ⟨h3, h4⟩ | ⟨h3, h4⟩
      · exact ⟨w, List.mem_cons_self, h3, h4⟩
      · exact ⟨s, List.mem_cons_of_mem _ List.mem_cons_self, h3, h4⟩
    · exact ⟨x, List.mem_cons_of_mem _ (List.mem_cons_of_mem _ hx), h1, rfl⟩
theorem hull (l : List Sp) (hl : ∀ s ∈ l, Fair s) : Hull l (l.foldl join none) := by
 have h := hull_from l none fair_none hl
 refine ⟨h.fair, ?_, fun s hs => h.cover s (List.mem_cons_of_mem _ hs), fun hn => ?_, fun hn => ?_⟩
 · rw [h.none_iff]
   exact ⟨fun h2 s hs => h2 s (List.mem_cons_of_mem _ hs), fun h2 s hs => by
    rcases List.mem_cons.1 hs with rfl | hs
    · rfl
    · exact h2 s hs⟩
 · obtain ⟨s, hs, h1, h2⟩ := h.low hn
   rcases List.mem_cons.1 hs with rfl | hs
   · exact absurd rfl h1
   · exact ⟨s, hs, h1, h2⟩
 · obtain ⟨s, hs, h1, h2⟩ := h.high hn
   rcases List.mem_cons.1 hs with rfl | hs
   · exact absurd rfl h1
   · exact ⟨s, hs, h1, h2⟩
def heightSp (b : Bk) (t : Tr) (hour : Nat) (n : Int) : Sp := if okAt b t hour n then just n else none
theorem water_fold (b : Bk) (t : Tr) (hour : Nat) (l : List Int) : ∀ w, Fair w → l.foldl (waterStep b t hour) w = (l.map (heightSp b t hour)).foldl join w := by
 induction l with
 | nil => intro w _; rfl
 | cons n l ih =>
  intro w hw
  have e : waterStep b t hour w n = join w (heightSp b t hour n) := by
   unfold waterStep heightSp
   split
   · rfl
   · rcases hw with rfl | hw
     · rfl
     · have h1 : isEmpty w = false := by simp [isEmpty]; omega
       unfold join
       rw [h1]
       rfl
  rw [List.foldl_cons, List.map_cons, List.foldl_cons, e]
  refine ih _ (joined hw ?_).fair
  unfold heightSp
  split
  · exact fair_just n
  · exact fair_none
theorem water_hull (b : Bk) (t : Tr) (hour : Nat) : Hull ((nums (tide b hour)).map (heightSp b t hour)) (water b t hour) := by
 unfold water
 rw [water_fold b t hour _ _ fair_none]
 refine hull _ fun s hs => ?_
 obtain ⟨n, -, rfl⟩ := List.mem_map.1 hs
 unfold heightSp
 split
 · exact fair_just n
 · exact fair_none
theorem water_fair (b : Bk) (t : Tr) (hour : Nat) : Fair (water b t hour) := (water_hull b t hour).fair
theorem water_in {b : Bk} {t : Tr} {hour : Nat} {n : Int} (h1 : (tide b hour).lo ≤ n) (h2 : n ≤ (tide b hour).hi) (h : okAt b t hour n = true) :
 water b t hour ≠ none ∧ (water b t hour).lo ≤ n ∧ n ≤ (water b t hour).hi := by
 have hm : just n ∈ (nums (tide b hour)).map (heightSp b t hour) := List.mem_map.2 ⟨n, mem_nums.2 ⟨h1, h2⟩, by simp [heightSp, h]⟩
 have h3 := (water_hull b t hour).cover _ hm (just_ne n)
 exact ⟨fun hn => just_ne n ((water_hull b t hour).none_iff.1 hn _ hm), h3⟩
theorem water_ends {b : Bk} {t : Tr} {hour : Nat} (h : water b t hour ≠ none) :
 okAt b t hour (water b t hour).lo = true ∧ okAt b t hour (water b t hour).hi = true ∧ (tide b hour).lo ≤ (water b t hour).lo ∧ (water b t hour).lo ≤ (water b t hour).hi ∧ (water b t hour).hi ≤ (tide b hour).hi := by
 have hf := ne_le (water_fair b t hour) h
 obtain ⟨s, hs, h1, h2⟩ := (water_hull b t hour).low h
 obtain ⟨s', hs', h3, h4⟩ := (water_hull b t hour).high h
 obtain ⟨n, hn, rfl⟩ := List.mem_map.1 hs
 obtain ⟨n', hn', rfl⟩ := List.mem_map.1 hs'
 have k : ∀ n, heightSp b t hour n ≠ none → okAt b t hour n = true ∧ heightSp b t hour n = just n := by
  intro n hn
  unfold heightSp at hn ⊢
  split
  · rename_i hc; exact ⟨hc, rfl⟩
  · rename_i hc; rw [if_neg hc] at hn; exact absurd rfl hn
 obtain ⟨k1, k2⟩ := k n h1
 obtain ⟨k3, k4⟩ := k n' h3
 rw [k2] at h2
 rw [k4] at h4
 have e1 : (water b t hour).lo = n := h2
 have e2 : (water b t hour).hi = n' := h4
 rw [mem_nums] at hn hn'
 rw [e1, e2] at hf ⊢
 exact ⟨k1, k3, hn.1, hf, hn'.2⟩
theorem height_hull (b : Bk) (hour : Nat) : Hull ((truths b).map fun t => water b t hour) (height b hour) := by
 have e : height b hour = ((truths b).map fun t => water b t hour).foldl join none := by
  unfold height
  rw [List.foldl_map]
 rw [e]
 refine hull _ fun s hs => ?_
 obtain ⟨t, -, rfl⟩ := List.mem_map.1 hs
 exact water_fair b t hour
theorem known_folds (l : List Tr) : ∀ k : Sp × Sp, l.foldl knownStep k = ((l.map fun t => just t.f0).foldl join k.1, (l.map fun t => just t.f1).foldl join k.2) := by
 induction l with
 | nil => intro k; rfl
 | cons t l ih => intro k; rw [List.foldl_cons, ih]; rfl
theorem known_hull (l : List Tr) : Hull (l.map fun t => just t.f0) (known l).1 ∧ Hull (l.map fun t => just t.f1) (known l).2 := by
 have hf : ∀ f : Tr → Int, ∀ s ∈ l.map fun t => just (f t), Fair s := fun f s hs => by
  obtain ⟨t, -, rfl⟩ := List.mem_map.1 hs
  exact fair_just _
 unfold known
 rw [known_folds]
 exact ⟨hull _ (hf _), hull _ (hf _)⟩
theorem water_ne {b : Bk} (hv : valid b = true) {t : Tr} (ht : t ∈ truths b) {hour : Nat} (hh : hour < b.tides.length) : water b t hour ≠ none := by
 obtain ⟨-, h2, -, -, h5⟩ := valid_parts hv
 by_cases hs : ∃ s ∈ b.sounds, s.hour = hour
 · obtain ⟨s, hs, e⟩ := hs
   have h1 := (List.mem_filter.1 ht).2
   have h3 := List.all_eq_true.1 h1 s hs
   have e2 : s.hour.toNat = hour := by omega
   rw [e2] at h3
   intro hn
   rw [(empty_iff (water_fair b t hour)).2 hn] at h3
   cases h3
 · have hb := tide_bd h2 hh
   have ho : okAt b t hour (tide b hour).lo = true := by
    have hd : ∀ k : Int, depths b.sounds hour k = [] := by
     intro k
     unfold depths
     rw [List.map_eq_nil_iff, List.filter_eq_nil_iff]
     intro s hs2 hc
     simp only [atSlip, Bool.and_eq_true, decide_eq_true_eq] at hc
     exact hs ⟨s, hs2, hc.1⟩
    simp [okAt, hd]
   exact (water_in (Int.le_refl _) hb.2.1 ho).1
end Go.Proofs.Ytjgpghaofhcfnaa.Ld
