/- Texts on the program that the proof leans on, part 47. -/
import Derived.Test.YtjgpghaofhcfnaaYbg
import Derived.Test.YtjgpghaofhcfnaaYbo
set_option linter.unusedVariables false
set_option linter.unusedSimpArgs false

/- Hulls: what the water, the heights and the floors mean. -/
namespace Go.Proofs.Ytjgpghaofhcfnaa.Ld

/-- A span that has numbers, or the one that has none. -/
def Fair (s : Sp) : Prop := s = none ∨ s.lo ≤ s.hi
theorem sp_ext {s t : Sp} (h1 : s.lo = t.lo) (h2 : s.hi = t.hi) : s = t := by
  cases s; cases t; simp at h1 h2; simp [h1, h2]
theorem empty_iff {s : Sp} (h : Fair s) : isEmpty s = true ↔ s = none := by
  rcases h with h | h
  · subst h; simp [isEmpty, none]
  · constructor
    · intro h2; simp [isEmpty] at h2; omega
    · rintro rfl; simp [isEmpty, none]
theorem fair_none : Fair none := .inl rfl
theorem fair_just (n : Int) : Fair (just n) := .inr (Int.le_refl _)
theorem just_ne (n : Int) : just n ≠ none := by
  intro h
  have h1 : (just n).lo = none.lo := by rw [h]
  have h2 : (just n).hi = none.hi := by rw [h]
  simp [just, none] at h1 h2
  omega
theorem ne_le {s : Sp} (h : Fair s) (hn : s ≠ none) : s.lo ≤ s.hi := by
  rcases h with h | h
  · exact absurd h hn
  · exact h
structure Joined (s t j : Sp) : Prop where
  fair : Fair j
  none_iff : j = none ↔ s = none ∧ t = none
  left : s ≠ none → j.lo ≤ s.lo ∧ s.hi ≤ j.hi
  right : t ≠ none → j.lo ≤ t.lo ∧ t.hi ≤ j.hi
  low : j ≠ none → (s ≠ none ∧ j.lo = s.lo) ∨ (t ≠ none ∧ j.lo = t.lo)
  high : j ≠ none → (s ≠ none ∧ j.hi = s.hi) ∨ (t ≠ none ∧ j.hi = t.hi)
theorem joined {s t : Sp} (hs : Fair s) (ht : Fair t) : Joined s t (join s t) := by
  unfold join
  by_cases h1 : s = none
  · rw [if_pos ((empty_iff hs).2 h1)]
    exact ⟨ht, ⟨fun h => ⟨h1, h⟩, fun h => h.2⟩, fun h => absurd h1 h, fun _ => ⟨Int.le_refl _, Int.le_refl _⟩, fun h => .inr ⟨h, rfl⟩, fun h => .inr ⟨h, rfl⟩⟩
  · rw [if_neg (fun h => h1 ((empty_iff hs).1 h))]
    by_cases h2 : t = none
    · rw [if_pos ((empty_iff ht).2 h2)]
      exact ⟨hs, ⟨fun h => absurd h h1, fun h => h.1⟩, fun _ => ⟨Int.le_refl _, Int.le_refl _⟩, fun h => absurd h2 h, fun h => .inl ⟨h, rfl⟩, fun h => .inl ⟨h, rfl⟩⟩
    · rw [if_neg (fun h => h2 ((empty_iff ht).1 h))]
      have a1 := ne_le hs h1
      have a2 := ne_le ht h2
      have hj : (min s.lo t.lo : Int) ≤ max s.hi t.hi := by omega
      refine ⟨.inr hj, ⟨fun h => ?_, fun h => absurd h.1 h1⟩, fun _ => ⟨?_, ?_⟩, fun _ => ⟨?_, ?_⟩, fun _ => ?_, fun _ => ?_⟩
      · have e1 : (min s.lo t.lo : Int) = 1 := congrArg Sp.lo h
        have e2 : (max s.hi t.hi : Int) = 0 := congrArg Sp.hi h
        omega
      · show min s.lo t.lo ≤ s.lo; omega
      · show s.hi ≤ max s.hi t.hi; omega
      · show min s.lo t.lo ≤ t.lo; omega
      · show t.hi ≤ max s.hi t.hi; omega
      · rcases Int.le_total s.lo t.lo with h | h
        · exact .inl ⟨h1, show min s.lo t.lo = s.lo by omega⟩
        · exact .inr ⟨h2, show min s.lo t.lo = t.lo by omega⟩
      · rcases Int.le_total s.hi t.hi with h | h
        · exact .inr ⟨h2, show max s.hi t.hi = t.hi by omega⟩
        · exact .inl ⟨h1, show max s.hi t.hi = s.hi by omega⟩

/-- The least span that holds all spans of a list. -/
structure Hull (l : List Sp) (r : Sp) : Prop where
  fair : Fair r
  none_iff : r = none ↔ ∀ s ∈ l, s = none
  cover : ∀ s ∈ l, s ≠ none → r.lo ≤ s.lo ∧ s.hi ≤ r.hi
  low : r ≠ none → ∃ s ∈ l, s ≠ none ∧ r.lo = s.lo
  high : r ≠ none → ∃ s ∈ l, s ≠ none ∧ r.hi = s.hi
theorem hull_from (l : List Sp) : ∀ w : Sp, Fair w → (∀ s ∈ l, Fair s) → Hull (w :: l) (l.foldl join w) := by
  induction l with
  | nil =>
    intro w hw _
    exact ⟨hw, by simp, fun s hs _ => by simp at hs; subst hs; exact ⟨Int.le_refl _, Int.le_refl _⟩, fun h => ⟨w, by simp, h, rfl⟩, fun h => ⟨w, by simp, h, rfl⟩⟩
  | cons s l ih =>
    intro w hw hl
    have hj := joined hw (hl s List.mem_cons_self)
    have h := ih (join w s) hj.fair (fun x hx => hl x (List.mem_cons_of_mem _ hx))
    refine ⟨h.fair, ?_, ?_, ?_, ?_⟩
    · rw [List.foldl_cons, h.none_iff]
      constructor
      · intro h2 x hx
        have h3 := hj.none_iff.1 (h2 _ List.mem_cons_self)
        rcases List.mem_cons.1 hx with rfl | hx
        · exact h3.1
        · rcases List.mem_cons.1 hx with rfl | hx
          · exact h3.2
          · exact h2 x (List.mem_cons_of_mem _ hx)
      · intro h2 x hx
        rcases List.mem_cons.1 hx with rfl | hx
        · exact hj.none_iff.2 ⟨h2 _ List.mem_cons_self, h2 _ (List.mem_cons_of_mem _ List.mem_cons_self)⟩
        · exact h2 x (List.mem_cons_of_mem _ (List.mem_cons_of_mem _ hx))
    · intro x hx hn
      rw [List.foldl_cons]
      have hjn : ∀ {y}, y ≠ none → y = w ∨ y = s → join w s ≠ none := by
        intro y hy h2 h3
        have h4 := hj.none_iff.1 h3
        rcases h2 with rfl | rfl
        · exact hy h4.1
        · exact hy h4.2
      rcases List.mem_cons.1 hx with rfl | hx
      · have h2 := h.cover _ List.mem_cons_self (hjn hn (.inl rfl))
        have h3 := hj.left hn
        omega
      · rcases List.mem_cons.1 hx with rfl | hx
        · have h2 := h.cover _ List.mem_cons_self (hjn hn (.inr rfl))
          have h3 := hj.right hn
          omega
        · exact h.cover x (List.mem_cons_of_mem _ hx) hn
    · intro hn
      obtain ⟨x, hx, h1, h2⟩ := h.low hn
      rw [List.foldl_cons, h2]
      rcases List.mem_cons.1 hx with rfl | hx
      · rcases hj.low h1 with ⟨h3, h4⟩ | ⟨h3, h4⟩
        · exact ⟨w, List.mem_cons_self, h3, h4⟩
        · exact ⟨s, List.mem_cons_of_mem _ List.mem_cons_self, h3, h4⟩
      · exact ⟨x, List.mem_cons_of_mem _ (List.mem_cons_of_mem _ hx), h1, rfl⟩
    · intro hn
      obtain ⟨x, hx, h1, h2⟩ := h.high hn
      rw [List.foldl_cons, h2]
      rcases List.mem_cons.1 hx with rfl | hx
      · rcases hj.high h1 with ⟨h3, h4⟩ | ⟨h3, h4⟩
        · exact ⟨w, List.mem_cons_self, h3, h4⟩
        · exact ⟨s, List.mem_cons_of_mem _ List.mem_cons_self, h3, h4⟩
      · exact ⟨x, List.mem_cons_of_mem _ (List.mem_cons_of_mem _ hx), h1, rfl⟩
theorem hull (l : List Sp) (hl : ∀ s ∈ l, Fair s) : Hull l (l.foldl join none) := by
  have h := hull_from l none fair_none hl
  refine ⟨h.fair, ?_, fun s hs => h.cover s (List.mem_cons_of_mem _ hs), fun hn => ?_, fun hn => ?_⟩
  · rw [h.none_iff]
    exact ⟨fun h2 s hs => h2 s (List.mem_cons_of_mem _ hs), fun h2 s hs => by
      rcases List.mem_cons.1 hs with rfl | hs
      · rfl
      · exact h2 s hs⟩
  · obtain ⟨s, hs, h1, h2⟩ := h.low hn
    rcases List.mem_cons.1 hs with rfl | hs
    · exact absurd rfl h1
    · exact ⟨s, hs, h1, h2⟩
  · obtain ⟨s, hs, h1, h2⟩ := h.high hn
    rcases List.mem_cons.1 hs with rfl | hs
    · exact absurd rfl h1
    · exact ⟨s, hs, h1, h2⟩

/-- What one height adds to the water. -/
def heightSp (b : Bk) (t : Tr) (hour : Nat) (n : Int) : Sp := if okAt b t hour n then just n else none
theorem water_fold (b : Bk) (t : Tr) (hour : Nat) (l : List Int) : ∀ w, Fair w → l.foldl (waterStep b t hour) w = (l.map (heightSp b t hour)).foldl join w := by
  induction l with
  | nil => intro w _; rfl
  | cons n l ih =>
    intro w hw
    have e : waterStep b t hour w n = join w (heightSp b t hour n) := by
      unfold waterStep heightSp
      split
      · rfl
      · rcases hw with rfl | hw
        · rfl
        · have h1 : isEmpty w = false := by simp [isEmpty]; omega
          unfold join
          rw [h1]
          rfl
    rw [List.foldl_cons, List.map_cons, List.foldl_cons, e]
    refine ih _ (joined hw ?_).fair
    unfold heightSp
    split
    · exact fair_just n
    · exact fair_none
theorem water_hull (b : Bk) (t : Tr) (hour : Nat) : Hull ((nums (tide b hour)).map (heightSp b t hour)) (water b t hour) := by
  unfold water
  rw [water_fold b t hour _ _ fair_none]
  refine hull _ fun s hs => ?_
  obtain ⟨n, -, rfl⟩ := List.mem_map.1 hs
  unfold heightSp
  split
  · exact fair_just n
  · exact fair_none
theorem water_fair (b : Bk) (t : Tr) (hour : Nat) : Fair (water b t hour) := (water_hull b t hour).fair
/-- A height that fits is in the water. -/
theorem water_in {b : Bk} {t : Tr} {hour : Nat} {n : Int} (h1 : (tide b hour).lo ≤ n) (h2 : n ≤ (tide b hour).hi) (h : okAt b t hour n = true) :
    water b t hour ≠ none ∧ (water b t hour).lo ≤ n ∧ n ≤ (water b t hour).hi := by
  have hm : just n ∈ (nums (tide b hour)).map (heightSp b t hour) := List.mem_map.2 ⟨n, mem_nums.2 ⟨h1, h2⟩, by simp [heightSp, h]⟩
  have h3 := (water_hull b t hour).cover _ hm (just_ne n)
  exact ⟨fun hn => just_ne n ((water_hull b t hour).none_iff.1 hn _ hm), h3⟩
/-- The water's ends fit. -/
theorem water_ends {b : Bk} {t : Tr} {hour : Nat} (h : water b t hour ≠ none) :
    okAt b t hour (water b t hour).lo = true ∧ okAt b t hour (water b t hour).hi = true ∧ (tide b hour).lo ≤ (water b t hour).lo ∧ (water b t hour).lo ≤ (water b t hour).hi ∧ (water b t hour).hi ≤ (tide b hour).hi := by
  have hf := ne_le (water_fair b t hour) h
  obtain ⟨s, hs, h1, h2⟩ := (water_hull b t hour).low h
  obtain ⟨s', hs', h3, h4⟩ := (water_hull b t hour).high h
  obtain ⟨n, hn, rfl⟩ := List.mem_map.1 hs
  obtain ⟨n', hn', rfl⟩ := List.mem_map.1 hs'
  have k : ∀ n, heightSp b t hour n ≠ none → okAt b t hour n = true ∧ heightSp b t hour n = just n := by
    intro n hn
    unfold heightSp at hn ⊢
    split
    · rename_i hc; exact ⟨hc, rfl⟩
    · rename_i hc; rw [if_neg hc] at hn; exact absurd rfl hn
  obtain ⟨k1, k2⟩ := k n h1
  obtain ⟨k3, k4⟩ := k n' h3
  rw [k2] at h2
  rw [k4] at h4
  have e1 : (water b t hour).lo = n := h2
  have e2 : (water b t hour).hi = n' := h4
  rw [mem_nums] at hn hn'
  rw [e1, e2] at hf ⊢
  exact ⟨k1, k3, hn.1, hf, hn'.2⟩
theorem height_hull (b : Bk) (hour : Nat) : Hull ((truths b).map fun t => water b t hour) (height b hour) := by
  have e : height b hour = ((truths b).map fun t => water b t hour).foldl join none := by
    unfold height
    rw [List.foldl_map]
  rw [e]
  refine hull _ fun s hs => ?_
  obtain ⟨t, -, rfl⟩ := List.mem_map.1 hs
  exact water_fair b t hour
theorem known_folds (l : List Tr) : ∀ k : Sp × Sp, l.foldl knownStep k = ((l.map fun t => just t.f0).foldl join k.1, (l.map fun t => just t.f1).foldl join k.2) := by
  induction l with
  | nil => intro k; rfl
  | cons t l ih => intro k; rw [List.foldl_cons, ih]; rfl
theorem known_hull (l : List Tr) : Hull (l.map fun t => just t.f0) (known l).1 ∧ Hull (l.map fun t => just t.f1) (known l).2 := by
  have hf : ∀ f : Tr → Int, ∀ s ∈ l.map fun t => just (f t), Fair s := fun f s hs => by
    obtain ⟨t, -, rfl⟩ := List.mem_map.1 hs
    exact fair_just _
  unfold known
  rw [known_folds]
  exact ⟨hull _ (hf _), hull _ (hf _)⟩
/-- A tide without any sounding in its hour leaves water. -/
theorem water_ne {b : Bk} (hv : valid b = true) {t : Tr} (ht : t ∈ truths b) {hour : Nat} (hh : hour < b.tides.length) : water b t hour ≠ none := by
  obtain ⟨-, h2, -, -, h5⟩ := valid_parts hv
  by_cases hs : ∃ s ∈ b.sounds, s.hour = hour
  · obtain ⟨s, hs, e⟩ := hs
    have h1 := (List.mem_filter.1 ht).2
    have h3 := List.all_eq_true.1 h1 s hs
    have e2 : s.hour.toNat = hour := by omega
    rw [e2] at h3
    intro hn
    rw [(empty_iff (water_fair b t hour)).2 hn] at h3
    cases h3
  · have hb := tide_bd h2 hh
    have ho : okAt b t hour (tide b hour).lo = true := by
      have hd : ∀ k : Int, depths b.sounds hour k = [] := by
        intro k
        unfold depths
        rw [List.map_eq_nil_iff, List.filter_eq_nil_iff]
        intro s hs2 hc
        simp only [atSlip, Bool.and_eq_true, decide_eq_true_eq] at hc
        exact hs ⟨s, hs2, hc.1⟩
      simp [okAt, hd]
    exact (water_in (Int.le_refl _) hb.2.1 ho).1

end Go.Proofs.Ytjgpghaofhcfnaa.Ld

/- Contract of the statements' helper with: a book with a sounding more. -/
namespace Go.Proofs.Ytjgpghaofhcfnaa
open Go.RowKit

set_option maxRecDepth 100000 in
/-- The soundings appended to an empty list of one's own. -/
theorem append_sds (base : Nat) (v0 : Value) (V : Value) (l : List Ld.Sd) (w : World) (hw : base ≤ w.heap.size) (hown : w.ownsRow base 64 3 v0 0 []) (hV : Sl w w.heap.size 3 V l.length (l.flatMap cSd)) (hl : l.length ≤ 1000) (ty : TypeId) :
    ∃ v' w', (Builtin.append_ #[28, 28] ty #[v0, V]).run Try.prog w = .ok v' w' ∧ w'.ownsRow base 64 3 v' l.length (l.flatMap cSd) ∧ w.grownBy w' v0.ownBlock := by
  obtain ⟨i0, hi, hz0, hz1, hz2⟩ := info_parts infoSd
  obtain ⟨h1, A, c, rfl, h2, h3, h4⟩ := hV
  have hone : ∀ u ∈ l.flatMap cSd, u.oneCell' = true := by
    intro u hu
    obtain ⟨x, -, hx⟩ := List.mem_flatMap.1 hu
    simp [cSd] at hx
    rcases hx with rfl | rfl | rfl <;> rfl
  cases A with
  | some a =>
    obtain ⟨v', w', g1, g2, g3, -, -⟩ := run_append_own_at (P := Try.prog) w base 28 ty 64 i0 (vSd ⟨0, 0, 0⟩) 3 24 underSds hi hz0 hz1 hz2 rfl (by decide) v0 0 [] hown a l.length c (l.flatMap cSd) h1 (by
      intro j u hj
      have hn : 0 < l.length := by
        rcases Nat.eq_zero_or_pos l.length with h | h
        · rw [List.eq_nil_of_length_eq_zero h] at hj; simp at hj
        · exact h
      obtain ⟨b, off, e, hb, hc⟩ := h4 hn
      injection e with e
      subst e
      rw [Addr.add_lit]
      exact hc j u hj) hone (by unfold maxLen; omega) (by omega) hw
    exact ⟨v', w', g1, by simpa using g2, g3⟩
  | none =>
    have hn : l.length = 0 := by
      rcases Nat.eq_zero_or_pos l.length with h | h
      · exact h
      · obtain ⟨b, off, e, -⟩ := h4 h; cases e
    have hl0 : l = [] := List.eq_nil_of_length_eq_zero hn
    subst hl0
    refine ⟨v0, w, ?_, hown, ⟨rfl, rfl, rfl, Nat.le_refl _, fun _ _ _ => rfl⟩⟩
    rcases hown.2 with ⟨rfl, -⟩ | ⟨g, cap, cur, rfl, -⟩ <;>
      simp [Builtin.append_, run_underlying underSds, sizeOf, typeInfo, hi, Builtin.lenOf, Builtin.firstCells, loadCells, loadCellsFrom, storeCells]

/-- A book with a sounding more. -/
def Ld.moreB (b : Ld.Bk) (y : Ld.Sd) : Ld.Bk := { b with sounds := b.sounds ++ [y] }

set_option maxRecDepth 100000 in
set_option maxHeartbeats 4000000 in
theorem withBk_any (b : Ld.Bk) (T D : Value) (y : Ld.Sd) (w : World) (hb : RB w w.heap.size b T D) (hl : b.sounds.length ≤ 100) :
    Calls Try.prog 34 #[vBk T D b, vSd y] w fun e w' => (∃ V', e = .returned (vBk T V' b) ∧ Sl w' w'.heap.size 3 V' (Ld.moreB b y).sounds.length ((Ld.moreB b y).sounds.flatMap cSd)) ∧ Below w.heap.size w w' := by
  obtain ⟨A0, k0, rfl⟩ := hb.tides.form
  obtain ⟨A2, k2, rfl⟩ := hb.sounds.form
  have HB := Lib.hid hb
  clear hb
  go_enter Try.func34, Try.ntmps34
  go_upto_region 2 with fail
  refine name_world ?_
  intro W3 hW3
  have hb3 : Below w.heap.size w W3 := by rw [hW3]; exact ((((Below.refl _ _).alloc (Nat.le_refl _) _).alloc (by simp) _).alloc (by simp <;> omega) _).alloc (by simp <;> omega) _
  have rB : W3.heap[w.heap.size]? = some (.cells (rBk (.slice A0 b.tides.length k0) (.slice A2 b.sounds.length k2) b) 30 (0, 0)) := by rw [hW3]; exact (Below.heap_alloc _ _ _ (by simp <;> omega)).trans ((Below.heap_alloc _ _ _ (by simp <;> omega)).trans ((Below.heap_alloc _ _ _ (by simp)).trans (heap_at _ _ rfl)))
  have rY : W3.heap[w.heap.size + 1]? = some (.cells #[I y.hour, I y.shore, I y.deep] 64 (0, 0)) := by rw [hW3]; exact (Below.heap_alloc _ _ _ (by simp <;> omega)).trans ((Below.heap_alloc _ _ _ (by simp)).trans (heap_at _ _ (by simp)))
  have rO : W3.heap[w.heap.size + 1 + 1]? = some (.cells #[.slice none 0 0, I 0, I 0, I 0, I 0, I 0, I 0, I 0, I 0, I 0, I 0, I 0, I 0, .slice none 0 0] 30 (0, 0)) := by rw [hW3]; exact (Below.heap_alloc _ _ _ (by simp)).trans (heap_at _ _ (by simp))
  have rX : W3.heap[w.heap.size + 1 + 1 + 1]? = some (.cells (rBk (.slice A0 b.tides.length k0) (.slice A2 b.sounds.length k2) b) 30 (0, 0)) := by rw [hW3]; exact heap_at _ _ (by simp)
  have qB13 := cell_of_row W3 _ 13 _ _ _ rB
  have qY0 := cell_of_row W3 _ 0 _ _ _ rY
  have qY1 := cell_of_row W3 _ 1 _ _ _ rY
  have qY2 := cell_of_row W3 _ 2 _ _ _ rY
  simp only [List.getElem?_toArray, List.getElem?_cons_zero, List.getElem?_cons_succ] at qB13 qY0 qY1 qY2
  have hF1 : w.heap.size < w.heap.size + 1 + 1 + 1 := by omega
  have hF2 : w.heap.size + 1 < w.heap.size + 1 + 1 + 1 := by omega
  have hwle : w.heap.size ≤ w.heap.size + 1 + 1 + 1 := by omega
  have HSDS := Lib.hid (show ∀ w', HeldB (w.heap.size + 1 + 1 + 1) W3 w' → Sl w' w'.heap.size 3 (.slice A2 b.sounds.length k2) b.sounds.length (b.sounds.flatMap cSd) from fun w' h => (HB.out.up (hb3.trans (h.2.mono hwle))).sounds)
  have HB3 := Lib.hid hb3
  have RX3 := Lib.hid rX
  have RO3 := Lib.hid rO
  clear hW3 hb3 rB rY rX rO
  refine name_act ?_
  intro A hA
  obtain ⟨R, hR⟩ : ∃ R : Act → World → Prop, R = fun a' w' => ∃ g cap : Nat, (∃ u7 u8 u9 u10 u11 u12 u13 u14, a' = ((((((((A.put (some 7) u7).put (some 8) u8).put (some 9) u9).put (some 10) u10).put (some 11) u11).put (some 12) u12).put (some 13) u13).put (some 14) u14)) ∧ w'.heap[w.heap.size + 1 + 1 + 1]? = some (.cells (rBk (.slice A0 b.tides.length k0) (.slice (some ⟨g, 0, none⟩) (b.sounds.length + 1) cap) b) 30 (0, 0)) ∧ w'.ownsRow (w.heap.size + 1 + 1 + 1 + 1) 64 3 (.slice (some ⟨g, 0, none⟩) (b.sounds.length + 1) cap) (b.sounds.length + 1) (b.sounds.flatMap cSd ++ cSd y) ∧ HeldB (w.heap.size + 1 + 1 + 1) W3 w' := ⟨_, rfl⟩
  have HR := Lib.hid hR
  clear hR
  refine wp_between R ?first2 ?rest2
  case first2 =>
    subst hA
    have hX0 : W3.drew.heap[w.heap.size + 1 + 1 + 1]? = _ := RX3.out
    have hS0 : HeldB (w.heap.size + 1 + 1 + 1) W3 W3.drew := heldB_of (Below.refl _ _).drew
    have hz0 : (w.heap.size + 1 + 1 + 1) + 1 ≤ W3.drew.heap.size := heap_lt RX3.out
    have hFw : (w.heap.size + 1 + 1 + 1) ≤ W3.heap.size := Nat.le_of_lt (heap_lt RX3.out)
    refine wp_region_held_drew (S := fun w' => HeldB (w.heap.size + 1 + 1 + 1) W3 w') (by kernel_rfl) hS0 (fun _ => ?_)
    refine wpAnyH_take (i := 1) (oi := { dst := some 8, op := Go.Op.fieldAddr 30 (Go.Operand.tmp 2) 5, type := 0, pos := "outright.go:180", after := #[], guard := none }) (v := ?v1) rfl (by kernel_rfl) (by kernel_rfl) (by kernel_rfl) (fun _ _ _ h => h) (Or.inl ⟨by rfl, ?hy1⟩) hS0 ?r1
    case hy1 =>
      intro w' hSw
      have hq := hSw.1
      clear hSw
      go_simp
      with_reducible rfl
    try simp only [Act.put, List.setIfInBounds_toArray, List.set_cons_zero, List.set_cons_succ]
    refine wpAnyH_take (i := 2) (oi := { dst := some 9, op := Go.Op.load 28 (Go.Operand.tmp 8), type := 28, pos := "outright.go:180", after := #[{ on := 1, ground := Go.Ground.data }], guard := none }) (v := ?v2) rfl (by kernel_rfl) (by kernel_rfl) (by kernel_rfl) (fun _ _ _ h => h) (Or.inl ⟨by rfl, ?hy2⟩) hS0 ?r2
    case hy2 =>
      intro w' hSw
      have hq := hSw.1
      clear hSw
      go_simp
      with_reducible rfl
    try simp only [Act.put, List.setIfInBounds_toArray, List.set_cons_zero, List.set_cons_succ]
    refine wpAnyH_take (i := 4) (oi := { dst := some 11, op := Go.Op.load 64 (Go.Operand.tmp 3), type := 64, pos := "outright.go:180", after := #[], guard := none }) (v := ?v3) rfl (by kernel_rfl) (by kernel_rfl) (by kernel_rfl) (fun _ _ _ h => h) (Or.inl ⟨by rfl, ?hy3⟩) hS0 ?r3
    case hy3 =>
      intro w' hSw
      have hq := hSw.1
      clear hSw
      go_simp
      with_reducible rfl
    try simp only [Act.put, List.setIfInBounds_toArray, List.set_cons_zero, List.set_cons_succ]
    refine wpAnyH_ready (rs := [0, 5]) (by kernel_rfl) (by simp) ?_
    refine AllReadyH.cons rfl (fun K hK => ?_) (AllReadyH.cons rfl (fun K hK => ?_) AllReadyH.nil)
    · go_simp
      refine hK.out _ _ (heldB_of (hS0.2.alloc (Nat.le_trans hFw hS0.2.size) _)) (fun _ => ?_)
      clear hK K
      try simp only [Act.put, List.setIfInBounds_toArray, List.set_cons_zero, List.set_cons_succ]
      refine name_anyH ?_
      intro w4 hWw4
      have hAw4 : Below W3.drew.heap.size W3.drew w4 := by rw [hWw4]; exact (Below.refl _ _).alloc (Nat.le_refl _) _
      have hSw4 : HeldB (w.heap.size + 1 + 1 + 1) W3 w4 := heldB_of (hS0.2.trans (hAw4.mono (Nat.le_trans hFw hS0.2.size)))
      have how4 : w4.ownsRow (w.heap.size + 1 + 1 + 1 + 1) 64 3 (.slice (some ⟨W3.drew.heap.size, 0, none⟩) 0 0) 0 [] := ⟨rfl, .inr ⟨W3.drew.heap.size, 0, #[], rfl, hz0, by rw [hWw4]; exact heap_at _ _ rfl, Nat.le_refl _, by unfold maxLen; omega, rfl, rfl⟩⟩
      have hzw4 : (w.heap.size + 1 + 1 + 1) + 1 ≤ w4.heap.size := Nat.le_trans hz0 hAw4.size
      clear hWw4
      have hrXw4 := (hAw4.block _ (heap_lt hX0)).trans hX0
      refine wpAnyH_ready (rs := [3, 5]) (by kernel_rfl) (by simp) ?_
      refine AllReadyH.cons rfl (fun K hK => ?_) (AllReadyH.cons rfl (fun K hK => ?_) AllReadyH.nil)
      · obtain ⟨vw5, w5, hrunw5, how5, hgw5⟩ := append_sds (w.heap.size + 1 + 1 + 1 + 1) (.slice (some ⟨W3.drew.heap.size, 0, none⟩) 0 0) (.slice A2 b.sounds.length k2) b.sounds w4 hzw4 how4 (HSDS.out _ hSw4) (by omega) 28
        have hAw5 : Below (w.heap.size + 1 + 1 + 1 + 1) w4 w5 := ⟨hgw5.os, hgw5.tape, hgw5.output, hgw5.size, fun i hi => hgw5.block i (Nat.lt_of_lt_of_le hi hzw4) (fun e => by have := (how4.lt i e.symm).1; omega)⟩
        rw [if_pos (by rfl)]
        refine wp_append_run (t := 28) (v0 := (.slice (some ⟨W3.drew.heap.size, 0, none⟩) 0 0)) (vx := .slice A2 b.sounds.length k2) (v' := vw5) (w' := w5) (by rfl) (by simp [go_sem]) (by simp [go_sem]) hrunw5 ?_
        have hSw5 : HeldB (w.heap.size + 1 + 1 + 1) W3 w5 := heldB_of (hSw4.2.trans (hAw5.mono (Nat.le_succ _)))
        refine hK.out _ _ hSw5 (fun _ => ?_)
        clear hK K
        try simp only [Act.put, List.setIfInBounds_toArray, List.set_cons_zero, List.set_cons_succ]
        have hzw5 : (w.heap.size + 1 + 1 + 1) + 1 ≤ w5.heap.size := Nat.le_trans hzw4 hAw5.size
        have hrXw5 := (hAw5.block _ (Nat.lt_succ_self _)).trans hrXw4
        refine wpAnyH_ready (rs := [5]) (by kernel_rfl) (by simp) ?_
        refine AllReadyH.cons rfl (fun K hK => ?_) AllReadyH.nil
        go_simp
        refine hK.out _ _ (heldB_of (hSw5.2.alloc (Nat.le_trans hFw hSw5.2.size) _)) (fun _ => ?_)
        clear hK K
        try simp only [Act.put, List.setIfInBounds_toArray, List.set_cons_zero, List.set_cons_succ]
        refine name_anyH ?_
        intro w6 hWw6
        have hAw6 : Below w5.heap.size w5 w6 := by rw [hWw6]; exact (Below.refl _ _).alloc (Nat.le_refl _) _
        have hSw6 : HeldB (w.heap.size + 1 + 1 + 1) W3 w6 := heldB_of (hSw5.2.trans (hAw6.mono (Nat.le_trans hFw hSw5.2.size)))
        have hr5w6 : w6.heap[w5.heap.size]? = some (.cells #[I y.hour, I y.shore, I y.deep] 64 (0, 0)) := by rw [hWw6]; exact heap_at _ _ rfl
        have hl5w6 : w5.heap.size < w6.heap.size := heap_lt hr5w6
        have hzw6 : (w.heap.size + 1 + 1 + 1) + 1 ≤ w6.heap.size := Nat.le_trans hzw5 hAw6.size
        have how6 : w6.ownsRow (w.heap.size + 1 + 1 + 1 + 1) 64 3 vw5 b.sounds.length (b.sounds.flatMap cSd) := by rw [hWw6]; exact how5.alloc _
        clear hWw6
        have hrXw6 := (hAw6.block _ (heap_lt hrXw5)).trans hrXw5
        refine wpAnyH_ready (rs := [6]) (by kernel_rfl) (by simp) ?_
        refine AllReadyH.cons rfl (fun K hK => ?_) AllReadyH.nil
        obtain ⟨i0, hi, hq0, hq1, hq2⟩ := info_parts infoSd
        obtain ⟨vw7, w7, hrunw7, how7, hgw7, -, -⟩ := run_append_own_at (P := Try.prog) w6 (w.heap.size + 1 + 1 + 1 + 1) 28 28 64 i0 (vSd ⟨0, 0, 0⟩) 3 24 underSds hi hq0 hq1 hq2 rfl (by decide) vw5 b.sounds.length (b.sounds.flatMap cSd) how6 ⟨w5.heap.size, 0, none⟩ 1 1 (cSd y) rfl (fun j u hj => by rw [Addr.add_lit, Nat.zero_add, cell_of_row _ _ j _ _ _ hr5w6]; simpa [cSd] using hj) (by intro u hu; simp [cSd] at hu; rcases hu with rfl | rfl | rfl <;> rfl) (by unfold maxLen; omega) (by omega) hzw6
        have hAw7 : Below (w.heap.size + 1 + 1 + 1 + 1) w6 w7 := ⟨hgw7.os, hgw7.tape, hgw7.output, hgw7.size, fun i hi => hgw7.block i (Nat.lt_of_lt_of_le hi hzw6) (fun e => by have := (how6.lt i e.symm).1; omega)⟩
        clear hi hq0 hq1 hq2
        rw [if_pos (by rfl)]
        refine wp_append_run (t := 28) (v0 := vw5) (vx := .slice (some ⟨w5.heap.size, 0, none⟩) 1 1) (v' := vw7) (w' := w7) (by rfl) (by simp [go_sem]) (by simp [go_sem]) hrunw7 ?_
        have hSw7 : HeldB (w.heap.size + 1 + 1 + 1) W3 w7 := heldB_of (hSw6.2.trans (hAw7.mono (Nat.le_succ _)))
        refine hK.out _ _ hSw7 (fun _ => ?_)
        clear hK K
        have hzw7 : (w.heap.size + 1 + 1 + 1) + 1 ≤ w7.heap.size := Nat.le_trans hzw6 hAw7.size
        have hrXw7 := (hAw7.block _ (Nat.lt_succ_self _)).trans hrXw6
        rcases how7 with ⟨hxw7, ⟨he, hcw7⟩ | ⟨gw7, capw7, curw7, rfl, hxxw7⟩⟩
        · exfalso; simp at hcw7
        have how7 : w7.ownsRow (w.heap.size + 1 + 1 + 1 + 1) 64 3 (.slice (some ⟨gw7, 0, none⟩) (b.sounds.length + 1) capw7) (b.sounds.length + 1) (b.sounds.flatMap cSd ++ cSd y) := ⟨hxw7, .inr ⟨gw7, capw7, curw7, rfl, hxxw7⟩⟩
        try simp only [Act.put, List.setIfInBounds_toArray, List.set_cons_zero, List.set_cons_succ]
        have qXw7 := cell_of_row w7 _ 13 _ _ _ hrXw7
        simp only [List.getElem?_toArray, List.getElem?_cons_zero, List.getElem?_cons_succ] at qXw7
        have fXw7 : w7.frozen? ⟨w.heap.size + 1 + 1 + 1, 13, none⟩ = false := by simp [World.frozen?, hrXw7]
        refine wpAnyH_take (i := 7) (oi := { dst := some 14, op := Go.Op.fieldAddr 30 (Go.Operand.tmp 5) 5, type := 0, pos := "outright.go:180", after := #[{ on := 0, ground := Go.Ground.phase }, { on := 1, ground := Go.Ground.phase }, { on := 2, ground := Go.Ground.phase }, { on := 3, ground := Go.Ground.phase }, { on := 4, ground := Go.Ground.phase }, { on := 5, ground := Go.Ground.phase }, { on := 6, ground := Go.Ground.phase }], guard := none }) (v := ?v8) rfl (by kernel_rfl) (by kernel_rfl) (by kernel_rfl) (fun _ _ _ h => h) (Or.inl ⟨by rfl, ?hy8⟩) hSw7 ?r8
        case hy8 =>
          intro w' hSw
          have hq := hSw.1
          clear hSw
          go_simp
          with_reducible rfl
        try simp only [Act.put, List.setIfInBounds_toArray, List.set_cons_zero, List.set_cons_succ]
        refine wpAnyH_ready (rs := [8]) (by kernel_rfl) (by simp) ?_
        refine AllReadyH.cons rfl (fun K hK => ?_) AllReadyH.nil
        go_simp
        have hSw9 : HeldB (w.heap.size + 1 + 1 + 1) W3 (w7.setCell ⟨w.heap.size + 1 + 1 + 1, 13, none⟩ (.slice (some ⟨gw7, 0, none⟩) (b.sounds.length + 1) capw7)) := heldB_of (hSw7.2.setCell (p := ⟨w.heap.size + 1 + 1 + 1, 13, none⟩) (Nat.le_refl _) _)
        refine hK.out _ _ hSw9 (fun _ => ?_)
        clear hK K
        try simp only [Act.put, List.setIfInBounds_toArray, List.set_cons_zero, List.set_cons_succ]
        refine wpAnyH_done (by kernel_rfl) ?_ _
        show R _ _
        rw [HR.out]
        simp only [Act.put, List.setIfInBounds_toArray, List.set_cons_zero, List.set_cons_succ]
        refine ⟨gw7, capw7, ⟨_, _, _, _, _, _, _, _, rfl⟩, by simp [World.setCell, Array.getElem?_modify, hrXw7], how7.kept (row := some (w.heap.size + 1 + 1 + 1)) ⟨rfl, rfl, rfl, by simp [World.setCell], fun k _ hk => Below.heap_setCell _ _ _ _ (fun e => hk (by rw [e]))⟩ (.inr ?_), hSw9⟩
        have := (how7.lt gw7 rfl).1
        simp [Value.ownBlock]
        omega
      · go_simp
        refine hK.out _ _ (heldB_of (hSw4.2.alloc (Nat.le_trans hFw hSw4.2.size) _)) (fun _ => ?_)
        clear hK K
        try simp only [Act.put, List.setIfInBounds_toArray, List.set_cons_zero, List.set_cons_succ]
        refine name_anyH ?_
        intro w10 hWw10
        have hAw10 : Below w4.heap.size w4 w10 := by rw [hWw10]; exact (Below.refl _ _).alloc (Nat.le_refl _) _
        have hSw10 : HeldB (w.heap.size + 1 + 1 + 1) W3 w10 := heldB_of (hSw4.2.trans (hAw10.mono (Nat.le_trans hFw hSw4.2.size)))
        have hr5w10 : w10.heap[w4.heap.size]? = some (.cells #[I y.hour, I y.shore, I y.deep] 64 (0, 0)) := by rw [hWw10]; exact heap_at _ _ rfl
        have hl5w10 : w4.heap.size < w10.heap.size := heap_lt hr5w10
        have hzw10 : (w.heap.size + 1 + 1 + 1) + 1 ≤ w10.heap.size := Nat.le_trans hzw4 hAw10.size
        have how10 : w10.ownsRow (w.heap.size + 1 + 1 + 1 + 1) 64 3 (.slice (some ⟨W3.drew.heap.size, 0, none⟩) 0 0) 0 [] := by rw [hWw10]; exact how4.alloc _
        clear hWw10
        have hrXw10 := (hAw10.block _ (heap_lt hrXw4)).trans hrXw4
        refine wpAnyH_ready (rs := [3]) (by kernel_rfl) (by simp) ?_
        refine AllReadyH.cons rfl (fun K hK => ?_) AllReadyH.nil
        obtain ⟨vw11, w11, hrunw11, how11, hgw11⟩ := append_sds (w.heap.size + 1 + 1 + 1 + 1) (.slice (some ⟨W3.drew.heap.size, 0, none⟩) 0 0) (.slice A2 b.sounds.length k2) b.sounds w10 hzw10 how10 (HSDS.out _ hSw10) (by omega) 28
        have hAw11 : Below (w.heap.size + 1 + 1 + 1 + 1) w10 w11 := ⟨hgw11.os, hgw11.tape, hgw11.output, hgw11.size, fun i hi => hgw11.block i (Nat.lt_of_lt_of_le hi hzw10) (fun e => by have := (how10.lt i e.symm).1; omega)⟩
        rw [if_pos (by rfl)]
        refine wp_append_run (t := 28) (v0 := (.slice (some ⟨W3.drew.heap.size, 0, none⟩) 0 0)) (vx := .slice A2 b.sounds.length k2) (v' := vw11) (w' := w11) (by rfl) (by simp [go_sem]) (by simp [go_sem]) hrunw11 ?_
        have hSw11 : HeldB (w.heap.size + 1 + 1 + 1) W3 w11 := heldB_of (hSw10.2.trans (hAw11.mono (Nat.le_succ _)))
        refine hK.out _ _ hSw11 (fun _ => ?_)
        clear hK K
        try simp only [Act.put, List.setIfInBounds_toArray, List.set_cons_zero, List.set_cons_succ]
        have hzw11 : (w.heap.size + 1 + 1 + 1) + 1 ≤ w11.heap.size := Nat.le_trans hzw10 hAw11.size
        have hrXw11 := (hAw11.block _ (Nat.lt_succ_self _)).trans hrXw10
        have hr5w11 := (hgw11.block _ (heap_lt hr5w10) (fun e => by have h0 : W3.drew.heap.size = W3.heap.size := rfl; have h1 := hl5w10; have h2 := (how4.lt _ e.symm).2; simp [Value.ownBlock] at e; omega)).trans hr5w10
        refine wpAnyH_ready (rs := [6]) (by kernel_rfl) (by simp) ?_
        refine AllReadyH.cons rfl (fun K hK => ?_) AllReadyH.nil
        obtain ⟨i0, hi, hq0, hq1, hq2⟩ := info_parts infoSd
        obtain ⟨vw12, w12, hrunw12, how12, hgw12, -, -⟩ := run_append_own_at (P := Try.prog) w11 (w.heap.size + 1 + 1 + 1 + 1) 28 28 64 i0 (vSd ⟨0, 0, 0⟩) 3 24 underSds hi hq0 hq1 hq2 rfl (by decide) vw11 b.sounds.length (b.sounds.flatMap cSd) how11 ⟨w4.heap.size, 0, none⟩ 1 1 (cSd y) rfl (fun j u hj => by rw [Addr.add_lit, Nat.zero_add, cell_of_row _ _ j _ _ _ hr5w11]; simpa [cSd] using hj) (by intro u hu; simp [cSd] at hu; rcases hu with rfl | rfl | rfl <;> rfl) (by unfold maxLen; omega) (by omega) hzw11
        have hAw12 : Below (w.heap.size + 1 + 1 + 1 + 1) w11 w12 := ⟨hgw12.os, hgw12.tape, hgw12.output, hgw12.size, fun i hi => hgw12.block i (Nat.lt_of_lt_of_le hi hzw11) (fun e => by have := (how11.lt i e.symm).1; omega)⟩
        clear hi hq0 hq1 hq2
        rw [if_pos (by rfl)]
        refine wp_append_run (t := 28) (v0 := vw11) (vx := .slice (some ⟨w4.heap.size, 0, none⟩) 1 1) (v' := vw12) (w' := w12) (by rfl) (by simp [go_sem]) (by simp [go_sem]) hrunw12 ?_
        have hSw12 : HeldB (w.heap.size + 1 + 1 + 1) W3 w12 := heldB_of (hSw11.2.trans (hAw12.mono (Nat.le_succ _)))
        refine hK.out _ _ hSw12 (fun _ => ?_)
        clear hK K
        have hzw12 : (w.heap.size + 1 + 1 + 1) + 1 ≤ w12.heap.size := Nat.le_trans hzw11 hAw12.size
        have hrXw12 := (hAw12.block _ (Nat.lt_succ_self _)).trans hrXw11
        rcases how12 with ⟨hxw12, ⟨he, hcw12⟩ | ⟨gw12, capw12, curw12, rfl, hxxw12⟩⟩
        · exfalso; simp at hcw12
        have how12 : w12.ownsRow (w.heap.size + 1 + 1 + 1 + 1) 64 3 (.slice (some ⟨gw12, 0, none⟩) (b.sounds.length + 1) capw12) (b.sounds.length + 1) (b.sounds.flatMap cSd ++ cSd y) := ⟨hxw12, .inr ⟨gw12, capw12, curw12, rfl, hxxw12⟩⟩
        try simp only [Act.put, List.setIfInBounds_toArray, List.set_cons_zero, List.set_cons_succ]
        have qXw12 := cell_of_row w12 _ 13 _ _ _ hrXw12
        simp only [List.getElem?_toArray, List.getElem?_cons_zero, List.getElem?_cons_succ] at qXw12
        have fXw12 : w12.frozen? ⟨w.heap.size + 1 + 1 + 1, 13, none⟩ = false := by simp [World.frozen?, hrXw12]
        refine wpAnyH_take (i := 7) (oi := { dst := some 14, op := Go.Op.fieldAddr 30 (Go.Operand.tmp 5) 5, type := 0, pos := "outright.go:180", after := #[{ on := 0, ground := Go.Ground.phase }, { on := 1, ground := Go.Ground.phase }, { on := 2, ground := Go.Ground.phase }, { on := 3, ground := Go.Ground.phase }, { on := 4, ground := Go.Ground.phase }, { on := 5, ground := Go.Ground.phase }, { on := 6, ground := Go.Ground.phase }], guard := none }) (v := ?v13) rfl (by kernel_rfl) (by kernel_rfl) (by kernel_rfl) (fun _ _ _ h => h) (Or.inl ⟨by rfl, ?hy13⟩) hSw12 ?r13
        case hy13 =>
          intro w' hSw
          have hq := hSw.1
          clear hSw
          go_simp
          with_reducible rfl
        try simp only [Act.put, List.setIfInBounds_toArray, List.set_cons_zero, List.set_cons_succ]
        refine wpAnyH_ready (rs := [8]) (by kernel_rfl) (by simp) ?_
        refine AllReadyH.cons rfl (fun K hK => ?_) AllReadyH.nil
        go_simp
        have hSw14 : HeldB (w.heap.size + 1 + 1 + 1) W3 (w12.setCell ⟨w.heap.size + 1 + 1 + 1, 13, none⟩ (.slice (some ⟨gw12, 0, none⟩) (b.sounds.length + 1) capw12)) := heldB_of (hSw12.2.setCell (p := ⟨w.heap.size + 1 + 1 + 1, 13, none⟩) (Nat.le_refl _) _)
        refine hK.out _ _ hSw14 (fun _ => ?_)
        clear hK K
        try simp only [Act.put, List.setIfInBounds_toArray, List.set_cons_zero, List.set_cons_succ]
        refine wpAnyH_done (by kernel_rfl) ?_ _
        show R _ _
        rw [HR.out]
        simp only [Act.put, List.setIfInBounds_toArray, List.set_cons_zero, List.set_cons_succ]
        refine ⟨gw12, capw12, ⟨_, _, _, _, _, _, _, _, rfl⟩, by simp [World.setCell, Array.getElem?_modify, hrXw12], how12.kept (row := some (w.heap.size + 1 + 1 + 1)) ⟨rfl, rfl, rfl, by simp [World.setCell], fun k _ hk => Below.heap_setCell _ _ _ _ (fun e => hk (by rw [e]))⟩ (.inr ?_), hSw14⟩
        have := (how12.lt gw12 rfl).1
        simp [Value.ownBlock]
        omega
    · go_simp
      refine hK.out _ _ (heldB_of (hS0.2.alloc (Nat.le_trans hFw hS0.2.size) _)) (fun _ => ?_)
      clear hK K
      try simp only [Act.put, List.setIfInBounds_toArray, List.set_cons_zero, List.set_cons_succ]
      refine name_anyH ?_
      intro w15 hWw15
      have hAw15 : Below W3.drew.heap.size W3.drew w15 := by rw [hWw15]; exact (Below.refl _ _).alloc (Nat.le_refl _) _
      have hSw15 : HeldB (w.heap.size + 1 + 1 + 1) W3 w15 := heldB_of (hS0.2.trans (hAw15.mono (Nat.le_trans hFw hS0.2.size)))
      have hr5w15 : w15.heap[W3.drew.heap.size]? = some (.cells #[I y.hour, I y.shore, I y.deep] 64 (0, 0)) := by rw [hWw15]; exact heap_at _ _ rfl
      have hl5w15 : W3.drew.heap.size < w15.heap.size := heap_lt hr5w15
      have hzw15 : (w.heap.size + 1 + 1 + 1) + 1 ≤ w15.heap.size := Nat.le_trans hz0 hAw15.size
      clear hWw15
      have hrXw15 := (hAw15.block _ (heap_lt hX0)).trans hX0
      refine wpAnyH_ready (rs := [0]) (by kernel_rfl) (by simp) ?_
      refine AllReadyH.cons rfl (fun K hK => ?_) AllReadyH.nil
      go_simp
      refine hK.out _ _ (heldB_of (hSw15.2.alloc (Nat.le_trans hFw hSw15.2.size) _)) (fun _ => ?_)
      clear hK K
      try simp only [Act.put, List.setIfInBounds_toArray, List.set_cons_zero, List.set_cons_succ]
      refine name_anyH ?_
      intro w16 hWw16
      have hAw16 : Below w15.heap.size w15 w16 := by rw [hWw16]; exact (Below.refl _ _).alloc (Nat.le_refl _) _
      have hSw16 : HeldB (w.heap.size + 1 + 1 + 1) W3 w16 := heldB_of (hSw15.2.trans (hAw16.mono (Nat.le_trans hFw hSw15.2.size)))
      have how16 : w16.ownsRow (w.heap.size + 1 + 1 + 1 + 1) 64 3 (.slice (some ⟨w15.heap.size, 0, none⟩) 0 0) 0 [] := ⟨rfl, .inr ⟨w15.heap.size, 0, #[], rfl, hzw15, by rw [hWw16]; exact heap_at _ _ rfl, Nat.le_refl _, by unfold maxLen; omega, rfl, rfl⟩⟩
      have hzw16 : (w.heap.size + 1 + 1 + 1) + 1 ≤ w16.heap.size := Nat.le_trans hzw15 hAw16.size
      clear hWw16
      have hrXw16 := (hAw16.block _ (heap_lt hrXw15)).trans hrXw15
      have hr5w16 := (hAw16.block _ (heap_lt hr5w15)).trans hr5w15
      refine wpAnyH_ready (rs := [3]) (by kernel_rfl) (by simp) ?_
      refine AllReadyH.cons rfl (fun K hK => ?_) AllReadyH.nil
      obtain ⟨vw17, w17, hrunw17, how17, hgw17⟩ := append_sds (w.heap.size + 1 + 1 + 1 + 1) (.slice (some ⟨w15.heap.size, 0, none⟩) 0 0) (.slice A2 b.sounds.length k2) b.sounds w16 hzw16 how16 (HSDS.out _ hSw16) (by omega) 28
      have hAw17 : Below (w.heap.size + 1 + 1 + 1 + 1) w16 w17 := ⟨hgw17.os, hgw17.tape, hgw17.output, hgw17.size, fun i hi => hgw17.block i (Nat.lt_of_lt_of_le hi hzw16) (fun e => by have := (how16.lt i e.symm).1; omega)⟩
      rw [if_pos (by rfl)]
      refine wp_append_run (t := 28) (v0 := (.slice (some ⟨w15.heap.size, 0, none⟩) 0 0)) (vx := .slice A2 b.sounds.length k2) (v' := vw17) (w' := w17) (by rfl) (by simp [go_sem]) (by simp [go_sem]) hrunw17 ?_
      have hSw17 : HeldB (w.heap.size + 1 + 1 + 1) W3 w17 := heldB_of (hSw16.2.trans (hAw17.mono (Nat.le_succ _)))
      refine hK.out _ _ hSw17 (fun _ => ?_)
      clear hK K
      try simp only [Act.put, List.setIfInBounds_toArray, List.set_cons_zero, List.set_cons_succ]
      have hzw17 : (w.heap.size + 1 + 1 + 1) + 1 ≤ w17.heap.size := Nat.le_trans hzw16 hAw17.size
      have hrXw17 := (hAw17.block _ (Nat.lt_succ_self _)).trans hrXw16
      have hr5w17 := (hgw17.block _ (heap_lt hr5w16) (fun e => by have h0 : W3.drew.heap.size = W3.heap.size := rfl; have h1 := hl5w15; simp [Value.ownBlock] at e; omega)).trans hr5w16
      refine wpAnyH_ready (rs := [6]) (by kernel_rfl) (by simp) ?_
      refine AllReadyH.cons rfl (fun K hK => ?_) AllReadyH.nil
      obtain ⟨i0, hi, hq0, hq1, hq2⟩ := info_parts infoSd
      obtain ⟨vw18, w18, hrunw18, how18, hgw18, -, -⟩ := run_append_own_at (P := Try.prog) w17 (w.heap.size + 1 + 1 + 1 + 1) 28 28 64 i0 (vSd ⟨0, 0, 0⟩) 3 24 underSds hi hq0 hq1 hq2 rfl (by decide) vw17 b.sounds.length (b.sounds.flatMap cSd) how17 ⟨W3.drew.heap.size, 0, none⟩ 1 1 (cSd y) rfl (fun j u hj => by rw [Addr.add_lit, Nat.zero_add, cell_of_row _ _ j _ _ _ hr5w17]; simpa [cSd] using hj) (by intro u hu; simp [cSd] at hu; rcases hu with rfl | rfl | rfl <;> rfl) (by unfold maxLen; omega) (by omega) hzw17
      have hAw18 : Below (w.heap.size + 1 + 1 + 1 + 1) w17 w18 := ⟨hgw18.os, hgw18.tape, hgw18.output, hgw18.size, fun i hi => hgw18.block i (Nat.lt_of_lt_of_le hi hzw17) (fun e => by have := (how17.lt i e.symm).1; omega)⟩
      clear hi hq0 hq1 hq2
      rw [if_pos (by rfl)]
      refine wp_append_run (t := 28) (v0 := vw17) (vx := .slice (some ⟨W3.drew.heap.size, 0, none⟩) 1 1) (v' := vw18) (w' := w18) (by rfl) (by simp [go_sem]) (by simp [go_sem]) hrunw18 ?_
      have hSw18 : HeldB (w.heap.size + 1 + 1 + 1) W3 w18 := heldB_of (hSw17.2.trans (hAw18.mono (Nat.le_succ _)))
      refine hK.out _ _ hSw18 (fun _ => ?_)
      clear hK K
      have hzw18 : (w.heap.size + 1 + 1 + 1) + 1 ≤ w18.heap.size := Nat.le_trans hzw17 hAw18.size
      have hrXw18 := (hAw18.block _ (Nat.lt_succ_self _)).trans hrXw17
      rcases how18 with ⟨hxw18, ⟨he, hcw18⟩ | ⟨gw18, capw18, curw18, rfl, hxxw18⟩⟩
      · exfalso; simp at hcw18
      have how18 : w18.ownsRow (w.heap.size + 1 + 1 + 1 + 1) 64 3 (.slice (some ⟨gw18, 0, none⟩) (b.sounds.length + 1) capw18) (b.sounds.length + 1) (b.sounds.flatMap cSd ++ cSd y) := ⟨hxw18, .inr ⟨gw18, capw18, curw18, rfl, hxxw18⟩⟩
      try simp only [Act.put, List.setIfInBounds_toArray, List.set_cons_zero, List.set_cons_succ]
      have qXw18 := cell_of_row w18 _ 13 _ _ _ hrXw18
      simp only [List.getElem?_toArray, List.getElem?_cons_zero, List.getElem?_cons_succ] at qXw18
      have fXw18 : w18.frozen? ⟨w.heap.size + 1 + 1 + 1, 13, none⟩ = false := by simp [World.frozen?, hrXw18]
      refine wpAnyH_take (i := 7) (oi := { dst := some 14, op := Go.Op.fieldAddr 30 (Go.Operand.tmp 5) 5, type := 0, pos := "outright.go:180", after := #[{ on := 0, ground := Go.Ground.phase }, { on := 1, ground := Go.Ground.phase }, { on := 2, ground := Go.Ground.phase }, { on := 3, ground := Go.Ground.phase }, { on := 4, ground := Go.Ground.phase }, { on := 5, ground := Go.Ground.phase }, { on := 6, ground := Go.Ground.phase }], guard := none }) (v := ?v19) rfl (by kernel_rfl) (by kernel_rfl) (by kernel_rfl) (fun _ _ _ h => h) (Or.inl ⟨by rfl, ?hy19⟩) hSw18 ?r19
      case hy19 =>
        intro w' hSw
        have hq := hSw.1
        clear hSw
        go_simp
        with_reducible rfl
      try simp only [Act.put, List.setIfInBounds_toArray, List.set_cons_zero, List.set_cons_succ]
      refine wpAnyH_ready (rs := [8]) (by kernel_rfl) (by simp) ?_
      refine AllReadyH.cons rfl (fun K hK => ?_) AllReadyH.nil
      go_simp
      have hSw20 : HeldB (w.heap.size + 1 + 1 + 1) W3 (w18.setCell ⟨w.heap.size + 1 + 1 + 1, 13, none⟩ (.slice (some ⟨gw18, 0, none⟩) (b.sounds.length + 1) capw18)) := heldB_of (hSw18.2.setCell (p := ⟨w.heap.size + 1 + 1 + 1, 13, none⟩) (Nat.le_refl _) _)
      refine hK.out _ _ hSw20 (fun _ => ?_)
      clear hK K
      try simp only [Act.put, List.setIfInBounds_toArray, List.set_cons_zero, List.set_cons_succ]
      refine wpAnyH_done (by kernel_rfl) ?_ _
      show R _ _
      rw [HR.out]
      simp only [Act.put, List.setIfInBounds_toArray, List.set_cons_zero, List.set_cons_succ]
      refine ⟨gw18, capw18, ⟨_, _, _, _, _, _, _, _, rfl⟩, by simp [World.setCell, Array.getElem?_modify, hrXw18], how18.kept (row := some (w.heap.size + 1 + 1 + 1)) ⟨rfl, rfl, rfl, by simp [World.setCell], fun k _ hk => Below.heap_setCell _ _ _ _ (fun e => hk (by rw [e]))⟩ (.inr ?_), hSw20⟩
      have := (how18.lt gw18 rfl).1
      simp [Value.ownBlock]
      omega
  case rest2 =>
    intro a' w3 hra
    rw [HR.out] at hra
    clear HR
    obtain ⟨g, cap, ⟨u7, u8, u9, u10, u11, u12, u13, u14, rfl⟩, rX, hown, hHE⟩ := hra
    subst hA
    try simp only [Act.put, List.setIfInBounds_toArray, List.set_cons_zero, List.set_cons_succ]
    have rO := (hHE.2.block (w.heap.size + 1 + 1) (by omega)).trans RO3.out
    have hbw : Below w.heap.size w w3 := HB3.out.trans (hHE.2.mono hwle)
    have hsl := sl_ownN hown (Nat.le_refl _)
    have HSL := Lib.hid hsl
    have HOWN := Lib.hid hown
    have HBW := Lib.hid hbw
    clear hsl hown hbw hHE qB13 qY0 qY1 qY2
    have qX0 := cell_of_row w3 _ 0 _ _ _ rX
    have qO0 := cell_of_row w3 _ 0 _ _ _ rO
    have zO0 : w3.frozen? ⟨w.heap.size + 1 + 1, 0, none⟩ = false := by simp [World.frozen?, rO]
    have qX1 := cell_of_row w3 _ 1 _ _ _ rX
    have qO1 := cell_of_row w3 _ 1 _ _ _ rO
    have zO1 : w3.frozen? ⟨w.heap.size + 1 + 1, 1, none⟩ = false := by simp [World.frozen?, rO]
    have qX2 := cell_of_row w3 _ 2 _ _ _ rX
    have qO2 := cell_of_row w3 _ 2 _ _ _ rO
    have zO2 : w3.frozen? ⟨w.heap.size + 1 + 1, 2, none⟩ = false := by simp [World.frozen?, rO]
    have qX3 := cell_of_row w3 _ 3 _ _ _ rX
    have qO3 := cell_of_row w3 _ 3 _ _ _ rO
    have zO3 : w3.frozen? ⟨w.heap.size + 1 + 1, 3, none⟩ = false := by simp [World.frozen?, rO]
    have qX4 := cell_of_row w3 _ 4 _ _ _ rX
    have qO4 := cell_of_row w3 _ 4 _ _ _ rO
    have zO4 : w3.frozen? ⟨w.heap.size + 1 + 1, 4, none⟩ = false := by simp [World.frozen?, rO]
    have qX5 := cell_of_row w3 _ 5 _ _ _ rX
    have qO5 := cell_of_row w3 _ 5 _ _ _ rO
    have zO5 : w3.frozen? ⟨w.heap.size + 1 + 1, 5, none⟩ = false := by simp [World.frozen?, rO]
    have qX6 := cell_of_row w3 _ 6 _ _ _ rX
    have qO6 := cell_of_row w3 _ 6 _ _ _ rO
    have zO6 : w3.frozen? ⟨w.heap.size + 1 + 1, 6, none⟩ = false := by simp [World.frozen?, rO]
    have qX7 := cell_of_row w3 _ 7 _ _ _ rX
    have qO7 := cell_of_row w3 _ 7 _ _ _ rO
    have zO7 : w3.frozen? ⟨w.heap.size + 1 + 1, 7, none⟩ = false := by simp [World.frozen?, rO]
    have qX8 := cell_of_row w3 _ 8 _ _ _ rX
    have qO8 := cell_of_row w3 _ 8 _ _ _ rO
    have zO8 : w3.frozen? ⟨w.heap.size + 1 + 1, 8, none⟩ = false := by simp [World.frozen?, rO]
    have qX9 := cell_of_row w3 _ 9 _ _ _ rX
    have qO9 := cell_of_row w3 _ 9 _ _ _ rO
    have zO9 : w3.frozen? ⟨w.heap.size + 1 + 1, 9, none⟩ = false := by simp [World.frozen?, rO]
    have qX10 := cell_of_row w3 _ 10 _ _ _ rX
    have qO10 := cell_of_row w3 _ 10 _ _ _ rO
    have zO10 : w3.frozen? ⟨w.heap.size + 1 + 1, 10, none⟩ = false := by simp [World.frozen?, rO]
    have qX11 := cell_of_row w3 _ 11 _ _ _ rX
    have qO11 := cell_of_row w3 _ 11 _ _ _ rO
    have zO11 : w3.frozen? ⟨w.heap.size + 1 + 1, 11, none⟩ = false := by simp [World.frozen?, rO]
    have qX12 := cell_of_row w3 _ 12 _ _ _ rX
    have qO12 := cell_of_row w3 _ 12 _ _ _ rO
    have zO12 : w3.frozen? ⟨w.heap.size + 1 + 1, 12, none⟩ = false := by simp [World.frozen?, rO]
    have qX13 := cell_of_row w3 _ 13 _ _ _ rX
    have qO13 := cell_of_row w3 _ 13 _ _ _ rO
    have zO13 : w3.frozen? ⟨w.heap.size + 1 + 1, 13, none⟩ = false := by simp [World.frozen?, rO]
    simp only [List.getElem?_toArray, List.getElem?_cons_zero, List.getElem?_cons_succ] at qX0 qX1 qX2 qX3 qX4 qX5 qX6 qX7 qX8 qX9 qX10 qX11 qX12 qX13 qO0 qO1 qO2 qO3 qO4 qO5 qO6 qO7 qO8 qO9 qO10 qO11 qO12 qO13
    have HRO := Lib.hid rO
    clear rX rO
    go_wp2_with fail
    have hne : ∀ g' o n c, (Value.slice (some ⟨g, 0, none⟩) (b.sounds.length + 1) cap) = .slice (some ⟨g', o, none⟩) n c → g' ≠ w.heap.size + 1 + 1 := fun g' o n c e => by
      have := (HOWN.out.lt g' (by rw [e]; rfl)).1
      omega
    refine bodyPost_ret (v := vBk (.slice A0 b.tides.length k0) (.slice (some ⟨g, 0, none⟩) (b.sounds.length + 1) cap) b) (by simp [results, Try.results34, go_sem, qO0, qO1, qO2, qO3, qO4, qO5, qO6, qO7, qO8, qO9, qO10, qO11, qO12, qO13]) rfl ⟨⟨_, rfl, ?_⟩, ?_⟩
    · have e1 : (Ld.moreB b y).sounds.length = b.sounds.length + 1 := by simp [Ld.moreB]
      have e2 : (Ld.moreB b y).sounds.flatMap cSd = b.sounds.flatMap cSd ++ cSd y := by simp [Ld.moreB]
      rw [e1, e2]
      refine Sl.more (HSL.out.same (fun g' o n c e => ?_)) (by simp [World.setCell])
      have h1 := hne g' o n c e
      exact (Below.heap_setCell _ _ _ _ h1).trans ((Below.heap_setCell _ _ _ _ h1).trans ((Below.heap_setCell _ _ _ _ h1).trans ((Below.heap_setCell _ _ _ _ h1).trans ((Below.heap_setCell _ _ _ _ h1).trans ((Below.heap_setCell _ _ _ _ h1).trans ((Below.heap_setCell _ _ _ _ h1).trans ((Below.heap_setCell _ _ _ _ h1).trans ((Below.heap_setCell _ _ _ _ h1).trans ((Below.heap_setCell _ _ _ _ h1).trans ((Below.heap_setCell _ _ _ _ h1).trans ((Below.heap_setCell _ _ _ _ h1).trans ((Below.heap_setCell _ _ _ _ h1).trans (Below.heap_setCell _ _ _ _ h1)))))))))))))
    · refine Below.setCell (Below.setCell (Below.setCell (Below.setCell (Below.setCell (Below.setCell (Below.setCell (Below.setCell (Below.setCell (Below.setCell (Below.setCell (Below.setCell (Below.setCell (Below.setCell HBW.out ?_ _) ?_ _) ?_ _) ?_ _) ?_ _) ?_ _) ?_ _) ?_ _) ?_ _) ?_ _) ?_ _) ?_ _) ?_ _) ?_ _
      all_goals (simp; try omega)

end Go.Proofs.Ytjgpghaofhcfnaa
