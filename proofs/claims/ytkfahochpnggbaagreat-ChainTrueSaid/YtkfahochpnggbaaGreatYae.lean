/- Texts on the program that the proof leans on, part 5. -/
import Derived.Test.YtkfahochpnggbaaGreatYad
import Derived.Test.YtkfahochpnggbaaGreatYaa
set_option linter.unusedVariables false
set_option linter.unusedSimpArgs false

/- Contracts of chain's ledger: how much thinner a section is. -/
namespace Go.Proofs.YtkfahochpnggbaaGreat
open Go.RowKit

/-- The world behind lost's three parameters. -/
abbrev lostW (w : World) (S T V : Value) (rule days : Int) (M R : Value) (wear : Nat → Int) (s d : Int) : World :=
  ((w.alloc (cLg S T V rule days M R)).alloc (.cells #[I (wear 0), I (wear 1), I (wear 2), I (wear 3)] 111)).alloc (.cells #[I s, I d] 106)

set_option maxHeartbeats 1000000 in
theorem lost_first (S T V M R : Value) (rule days : Int) (wear : Nat → Int) (s : Int) (w : World) :
    Calls Tryz.prog 119 #[vLg S T V rule days M R, vPl wear, vSpot s 0] w fun e w' => e = .returned (I 0) ∧ Below w.heap.size w w' := by
  have es := eq_spot s 0 s 0
  have hB : Below w.heap.size w (lostW w S T V rule days M R wear s 0) := (((Below.refl _ _).alloc (Nat.le_refl _) _).alloc (by simp) _).alloc (by simp; omega) _
  go_enter Tryz.func119, Tryz.ntmps119
  go_wp2_with fail
  refine name_world ?_
  intro W hW
  have c0 : W.cell? ⟨w.heap.size + 1 + 1, 0, none⟩ = some (I s) := by rw [hW]; simp [go_sem]
  have c1 : W.cell? ⟨w.heap.size + 1 + 1, 1, none⟩ = some (I 0) := by rw [hW]; simp [go_sem]
  have hz : W.heap.size = w.heap.size + 3 := by rw [hW]; simp
  have hlt : w.heap.size + 1 + 1 < W.heap.size := by omega
  replace hB : Below w.heap.size w W := by rw [hW]; exact hB
  have hBz := hB.size
  clear hz hW
  first | (go_must (go_region_with (first | (go_at_call 152; refine (start_any _ _ _).mono ?_; rintro e w1 ⟨rfl, hB1⟩; have d0 := (hB1.cell (p := ⟨w.heap.size + 1 + 1, 0, none⟩) hlt).trans c0; have d1 := (hB1.cell (p := ⟨w.heap.size + 1 + 1, 1, none⟩) hlt).trans c1)))) | fail
  all_goals
    go_wp2_with fail
    go_ret
    exact ⟨rfl, hB.trans (Below.trans (Below.refl _ _).drew ((by assumption : Below W.drew.heap.size W.drew _).mono hBz))⟩

end Go.Proofs.YtkfahochpnggbaaGreat

/- Contracts of chain's ledger: how much thinner a section is, where no place wears anything. -/
namespace Go.Proofs.YtkfahochpnggbaaGreat
open Go.RowKit

theorem places_ne {a b c d : Int} (h : ¬(a = 0 ∧ b = 0 ∧ c = 0 ∧ d = 0)) : (a == 0 && b == 0 && c == 0 && d == 0) = false := by
  rw [Bool.eq_false_iff]
  simp
  omega

set_option maxHeartbeats 1000000 in
theorem lost_none (S T V M R : Value) (rule days : Int) (wear : Nat → Int) (s d : Int) (hd : d ≠ 0) (h0 : wear 0 = 0) (h1 : wear 1 = 0) (h2 : wear 2 = 0) (h3 : wear 3 = 0) (w : World) :
    Calls Tryz.prog 119 #[vLg S T V rule days M R, vPl wear, vSpot s d] w fun e w' => e = .returned (I 0) ∧ Below w.heap.size w w' := by
  have es := eq_spot s d s 0
  have ep := eq_places 0 0 0 0 0 0 0 0
  have hdb : (s == s && d == 0) = false := by simp [hd]
  have hB : Below w.heap.size w (lostW w S T V rule days M R wear s d) := (((Below.refl _ _).alloc (Nat.le_refl _) _).alloc (by simp) _).alloc (by simp; omega) _
  simp only [lostW, vPl, h0, h1, h2, h3] at hB ⊢
  rw [hdb] at es
  clear h0 h1 h2 h3 hdb
  go_enter Tryz.func119, Tryz.ntmps119
  go_wp2_with fail
  refine name_world ?_
  intro W hW
  have c0 : W.cell? ⟨w.heap.size + 1 + 1, 0, none⟩ = some (I s) := by rw [hW]; simp [go_sem]
  have c1 : W.cell? ⟨w.heap.size + 1 + 1, 1, none⟩ = some (I d) := by rw [hW]; simp [go_sem]
  have p0 : W.cell? ⟨w.heap.size + 1, 0, none⟩ = some (I 0) := by rw [hW]; simp [go_sem]
  have p1 : W.cell? ⟨w.heap.size + 1, 1, none⟩ = some (I 0) := by rw [hW]; simp [go_sem]
  have p2 : W.cell? ⟨w.heap.size + 1, 2, none⟩ = some (I 0) := by rw [hW]; simp [go_sem]
  have p3 : W.cell? ⟨w.heap.size + 1, 3, none⟩ = some (I 0) := by rw [hW]; simp [go_sem]
  have hz : W.heap.size = w.heap.size + 3 := by rw [hW]; simp
  have hlt : w.heap.size + 1 + 1 < W.heap.size := by omega
  have hlt1 : w.heap.size + 1 < W.heap.size := by omega
  replace hB : Below w.heap.size w W := by rw [hW]; exact hB
  have hBz := hB.size
  clear hz hW
  go_region_held3 (fun w' => Held W w') (first | assumption | exact held_start _ | exact held_step (by assumption) (by assumption) | exact held_alloc (by assumption) _ | go_keep)
    (first | (go_at_call 152; refine (start_any _ _ _).mono ?_; rintro e w1 ⟨rfl, hB1⟩))
  go_wp2_with fail
  go_ret
  exact ⟨rfl, hB.trans ((by assumption : Held W _).2.2.mono hBz)⟩

theorem idx_pl (f : Nat → Int) (k : Nat) (hk : k < 4) (w : World) : (Instr.index 111 (vPl f) (.int .i64 k)).run Tryz.prog w = .ok (I (f k)) w := by
  rcases (by omega : k = 0 ∨ k = 1 ∨ k = 2 ∨ k = 3) with rfl | rfl | rfl | rfl <;> kernel_rfl

def sumTo (f g : Nat → Int) : Nat → Int
  | 0 => 0
  | k + 1 => sumTo f g k + f k * g k

theorem sumTo_bd (b : Ch.Bk) (wear : Nat → Int) (hw : Ch.WearOk wear) (s : Int) (d k : Nat) : 0 ≤ sumTo (Ch.lain b s d) wear k ∧ sumTo (Ch.lain b s d) wear k ≤ (3 * (d : Int)) * (k : Int) := by
  induction k with
  | zero => simp [sumTo]
  | succ k ih =>
    have tb := Ch.term_bd b wear hw s d k
    simp only [sumTo]
    have : (3 * (d : Int)) * ((k + 1 : Nat) : Int) = (3 * (d : Int)) * (k : Int) + 3 * (d : Int) := by rw [Int.natCast_add, Int.mul_add]; simp
    omega

set_option maxHeartbeats 2000000 in
theorem lost_some (b : Ch.Bk) (S T V M R : Value) (rule : Int) (wear : Nat → Int) (hw : Ch.WearOk wear) (s d : Nat) (hd : (d : Int) ≠ 0) (hsome : ¬(wear 0 = 0 ∧ wear 1 = 0 ∧ wear 2 = 0 ∧ wear 3 = 0)) (w : World) (hM : RM w w.heap.size b M) (hn : b.secs.length ≤ 4) (hdays : b.days ≤ 30) (hg : Good b s d) :
    Calls Tryz.prog 119 #[vLg S T V rule b.days M R, vPl wear, vSpot s d] w fun e w' => e = .returned (I (sumTo (Ch.lain b s d) wear 4)) ∧ Below w.heap.size w w' := by
  have es := eq_spot s d s 0
  have ep := eq_places (wear 0) (wear 1) (wear 2) (wear 3) 0 0 0 0
  rw [places_ne hsome] at ep
  have hdb : ((s : Int) == s && (d : Int) == 0) = false := by simp; omega
  rw [hdb] at es
  clear hdb hsome
  have hd30 : d ≤ 30 := by have := hg.2; omega
  have hB : Below w.heap.size w (lostW w S T V rule b.days M R wear s d) := (((Below.refl _ _).alloc (Nat.le_refl _) _).alloc (by simp) _).alloc (by simp; omega) _
  go_enter Tryz.func119, Tryz.ntmps119
  go_wp2_with fail
  refine name_world ?_
  intro W hW
  have c0 : W.cell? ⟨w.heap.size + 1 + 1, 0, none⟩ = some (I s) := by rw [hW]; simp [go_sem]
  have c1 : W.cell? ⟨w.heap.size + 1 + 1, 1, none⟩ = some (I d) := by rw [hW]; simp [go_sem]
  have p0 : W.cell? ⟨w.heap.size + 1, 0, none⟩ = some (I (wear 0)) := by rw [hW]; simp [go_sem]
  have p1 : W.cell? ⟨w.heap.size + 1, 1, none⟩ = some (I (wear 1)) := by rw [hW]; simp [go_sem]
  have p2 : W.cell? ⟨w.heap.size + 1, 2, none⟩ = some (I (wear 2)) := by rw [hW]; simp [go_sem]
  have p3 : W.cell? ⟨w.heap.size + 1, 3, none⟩ = some (I (wear 3)) := by rw [hW]; simp [go_sem]
  have m5 : W.cell? ⟨w.heap.size, 5, none⟩ = some M := by rw [hW]; simp [go_sem]
  have hz : W.heap.size = w.heap.size + 3 := by rw [hW]; simp
  have hlt : w.heap.size + 1 + 1 < W.heap.size := by omega
  have hlt1 : w.heap.size + 1 < W.heap.size := by omega
  have hlt0 : w.heap.size < W.heap.size := by omega
  replace hB : Below w.heap.size w W := by rw [hW]; exact hB
  have hBz := hB.size
  clear hz hW
  go_region_held3 (fun w' => Held W w') (first | assumption | exact held_start _ | exact held_step (by assumption) (by assumption) | exact held_alloc (by assumption) _ | go_keep)
    (first | (go_at_call 152; refine (start_any _ _ _).mono ?_; rintro e w1 ⟨rfl, hB1⟩))
  have hH1 := held_step hB1 (held_start W)
  have hb1 : Below w.heap.size w w1 := hB.trans (hH1.2.2.mono hBz)
  have hrun : (Instr.lookup 90 M (.agg #[I s, I d]) false).run Tryz.prog w1 = .ok (.agg #[I (Ch.lain b s d 0), I (Ch.lain b s d 1), I (Ch.lain b s d 2), I (Ch.lain b s d 3)]) w1 := (hM.below hb1 (Nat.le_refl _)).look hn hdays hg
  have HR := Lib.hid hrun
  clear hH1 hrun hB1 es ep
  go_wp2_with (at_lookup; go_must (refine wpList_lookup_run rfl _ _ _ rfl HR.out rfl rfl ?_))
  go_loop [7, 23] (fun m i => ∃ k : Nat, k ≤ 4 ∧ i = I k ∧ m = I (sumTo (Ch.lain b s d) wear k)) (fun _ i => 4 - (intOf i).toNat)
  case atStart => exact ⟨0, by omega, rfl, rfl⟩
  case round =>
    rename w1 = w1 => hww
    clear hww
    obtain ⟨k, hk, rfl, rfl⟩ := hrel
    have hsb := sumTo_bd b wear hw s d k
    by_cases hlt4 : k < 4
    · have hidx : ∀ w, (Instr.index 111 (.agg #[I (Ch.lain b s d 0), I (Ch.lain b s d 1), I (Ch.lain b s d 2), I (Ch.lain b s d 3)]) (.int .i64 k)).run Tryz.prog w = .ok (I (Ch.lain b s d k)) w := idx_pl (Ch.lain b s d) k hlt4
      have tb := Ch.term_bd b wear hw s d k
      have hlb := Ch.lain_bd b s d k
      have hwk := hw k
      have hsn : sumTo (Ch.lain b s d) wear (k + 1) = sumTo (Ch.lain b s d) wear k + Ch.lain b s d k * wear k := rfl
      have HS := Lib.hid hsn
      clear hsn
      have hcase : k = 0 ∨ k = 1 ∨ k = 2 ∨ k = 3 := by omega
      have hkd : 12 * d ≤ 360 := by omega
      have hsb2 : sumTo (Ch.lain b s d) wear k ≤ 1000 := by
        have : (3 * (d : Int)) * (k : Int) ≤ 90 * 4 := Int.mul_le_mul (by omega) (by omega) (by omega) (by omega)
        omega
      have hsb0 := hsb.1
      clear hsb
      have hlt4i : (k : Int) < 4 := by omega
      have pk : W.cell? ⟨w.heap.size + 1, k, none⟩ = some (I (wear k)) := by
        rcases hcase with rfl | rfl | rfl | rfl
        · exact p0
        · exact p1
        · exact p2
        · exact p3
      clear p0 p1 p2 p3 c0 c1 m5 hcase
      go_wp2_with fail
      go_round
      case rel => exact ⟨k + 1, by omega, by go_num, by rw [HS.out]⟩
      case measure => simp [intOf]; omega
    · obtain rfl : k = 4 := by omega
      go_wp2_with fail
      go_ret
      exact ⟨rfl, hb1⟩

end Go.Proofs.YtkfahochpnggbaaGreat

/- The layer of chains, as plain mathematics: truths, and what they tell. Imports nothing of the program. -/
namespace Go.Proofs.YtkfahochpnggbaaGreat.Ch

/-- How thick a section was at first, as a survey tells it. -/
def read (b : Bk) (wear : Nat → Int) (x : Sv) : Sp :=
  ⟨x.read + lost b wear x.sec x.day.toNat - x.err, x.read + lost b wear x.sec x.day.toNat + x.err⟩
def meet (a b : Sp) : Sp := ⟨max a.lo b.lo, min a.hi b.hi⟩
def isEmpty (s : Sp) : Bool := decide (s.hi < s.lo)
/-- How thick a section can be at first, by some surveys. -/
def surveyedL (b : Bk) (wear : Nat → Int) (s : Int) (t : Sp) (l : List Sv) : Sp :=
  l.foldl (fun f x => if x.sec = s then meet f (read b wear x) else f) t
def surveyed (b : Bk) (wear : Nat → Int) (s : Nat) : Sp :=
  surveyedL b wear s ((b.secs.getD s ⟨⟨0, 0⟩, ⟨0, 0⟩⟩).thick) b.svs
theorem surveyedL_snoc (b : Bk) (wear : Nat → Int) (s : Int) (t : Sp) (l : List Sv) (x : Sv) :
    surveyedL b wear s t (l ++ [x]) = if x.sec = s then meet (surveyedL b wear s t l) (read b wear x) else surveyedL b wear s t l := by
  simp [surveyedL, List.foldl_append]

end Go.Proofs.YtkfahochpnggbaaGreat.Ch

/- Contracts of chain's ledger: how much thinner; what a survey tells; which sections are settled; the ledger of a book. -/
namespace Go.Proofs.YtkfahochpnggbaaGreat
open Go.RowKit

theorem lost_any (b : Ch.Bk) (S T V M R : Value) (rule : Int) (wear : Nat → Int) (hw : Ch.WearOk wear) (s d : Nat) (w : World) (hM : RM w w.heap.size b M) (hn : b.secs.length ≤ 4) (hdays : b.days ≤ 30) (hg : Good b s d) :
    Calls Tryz.prog 119 #[vLg S T V rule b.days M R, vPl wear, vSpot s d] w fun e w' => e = .returned (I (Ch.lost b wear s d)) ∧ Below w.heap.size w w' := by
  by_cases hd : d = 0
  · subst hd
    rw [Ch.lost_zero]
    exact lost_first S T V M R rule b.days wear s w
  · by_cases h : wear 0 = 0 ∧ wear 1 = 0 ∧ wear 2 = 0 ∧ wear 3 = 0
    · have : Ch.lost b wear s d = 0 := by simp [Ch.lost, h.1, h.2.1, h.2.2.1, h.2.2.2]
      rw [this]
      exact lost_none S T V M R rule b.days wear s d (by omega) h.1 h.2.1 h.2.2.1 h.2.2.2 w
    · have : Ch.lost b wear s d = sumTo (Ch.lain b s d) wear 4 := by simp [Ch.lost, sumTo]
      rw [this]
      exact lost_some b S T V M R rule wear hw s d (by omega) h w hM hn hdays hg

/-- A survey as it is valid. -/
structure SvOk (b : Ch.Bk) (x : Ch.Sv) : Prop where
  sec0 : 0 ≤ x.sec
  sec1 : x.sec < b.secs.length
  day0 : 0 ≤ x.day
  day1 : x.day ≤ b.days
  read0 : 0 ≤ x.read
  read1 : x.read ≤ 200
  err0 : 0 ≤ x.err
  err1 : x.err ≤ 5

set_option maxHeartbeats 2000000 in
theorem read_any (b : Ch.Bk) (S T V M R : Value) (rule : Int) (wear : Nat → Int) (hw : Ch.WearOk wear) (x : Ch.Sv) (w : World) (hM : RM w w.heap.size b M) (hn : b.secs.length ≤ 4) (hdays : b.days ≤ 30) (hx : SvOk b x) :
    Calls Tryz.prog 126 #[vLg S T V rule b.days M R, vSv x, vPl wear] w fun e w' => e = .returned (vSp (Ch.read b wear x)) ∧ Below w.heap.size w w' := by
  obtain ⟨sc, dy, rd, er⟩ := x
  obtain ⟨s0, s1, d0, d1, r0, r1, e0, e1⟩ := hx
  simp only at s0 s1 d0 d1 r0 r1 e0 e1
  obtain ⟨s, rfl⟩ := Int.eq_ofNat_of_zero_le s0
  obtain ⟨d, rfl⟩ := Int.eq_ofNat_of_zero_le d0
  have hg : Good b s d := ⟨by omega, d1⟩
  have hl := Ch.lost_bd b wear hw s d
  have hd30 : d ≤ 30 := by omega
  have hB : Below w.heap.size w ((((w.alloc (cLg S T V rule b.days M R)).alloc (.cells #[I s, I d, I rd, I er] 34)).alloc (.cells #[I (wear 0), I (wear 1), I (wear 2), I (wear 3)] 111)).alloc (.cells #[I 0, I 0] 51)) :=
    ((((Below.refl _ _).alloc (Nat.le_refl _) _).alloc (by simp) _).alloc (by simp; omega) _).alloc (by simp; omega) _
  go_enter Tryz.func126, Tryz.ntmps126
  go_wp2_with fail
  refine name_world ?_
  intro W hW
  have a0 : W.cell? ⟨w.heap.size, 0, none⟩ = some S := by rw [hW]; simp [go_sem]
  have a1 : W.cell? ⟨w.heap.size, 1, none⟩ = some T := by rw [hW]; simp [go_sem]
  have a2 : W.cell? ⟨w.heap.size, 2, none⟩ = some V := by rw [hW]; simp [go_sem]
  have a3 : W.cell? ⟨w.heap.size, 3, none⟩ = some (I rule) := by rw [hW]; simp [go_sem]
  have a4 : W.cell? ⟨w.heap.size, 4, none⟩ = some (I b.days) := by rw [hW]; simp [go_sem]
  have a5 : W.cell? ⟨w.heap.size, 5, none⟩ = some M := by rw [hW]; simp [go_sem]
  have a6 : W.cell? ⟨w.heap.size, 6, none⟩ = some R := by rw [hW]; simp [go_sem]
  have c0 : W.cell? ⟨w.heap.size + 1, 0, none⟩ = some (I s) := by rw [hW]; simp [go_sem]
  have c1 : W.cell? ⟨w.heap.size + 1, 1, none⟩ = some (I d) := by rw [hW]; simp [go_sem]
  have c2 : W.cell? ⟨w.heap.size + 1, 2, none⟩ = some (I rd) := by rw [hW]; simp [go_sem]
  have c3 : W.cell? ⟨w.heap.size + 1, 3, none⟩ = some (I er) := by rw [hW]; simp [go_sem]
  have p0 : W.cell? ⟨w.heap.size + 1 + 1, 0, none⟩ = some (I (wear 0)) := by rw [hW]; simp [go_sem]
  have p1 : W.cell? ⟨w.heap.size + 1 + 1, 1, none⟩ = some (I (wear 1)) := by rw [hW]; simp [go_sem]
  have p2 : W.cell? ⟨w.heap.size + 1 + 1, 2, none⟩ = some (I (wear 2)) := by rw [hW]; simp [go_sem]
  have p3 : W.cell? ⟨w.heap.size + 1 + 1, 3, none⟩ = some (I (wear 3)) := by rw [hW]; simp [go_sem]
  have z0 : W.cell? ⟨w.heap.size + 1 + 1 + 1, 0, none⟩ = some (I 0) := by rw [hW]; simp [go_sem]
  have z1 : W.cell? ⟨w.heap.size + 1 + 1 + 1, 1, none⟩ = some (I 0) := by rw [hW]; simp [go_sem]
  have f0 : W.frozen? ⟨w.heap.size + 1 + 1 + 1, 0, none⟩ = false := by rw [hW]; simp [go_sem]
  have f1 : W.frozen? ⟨w.heap.size + 1 + 1 + 1, 1, none⟩ = false := by rw [hW]; simp [go_sem]
  have hz : W.heap.size = w.heap.size + 4 := by rw [hW]; simp
  have hlt0 : w.heap.size < W.heap.size := by omega
  have hlt1 : w.heap.size + 1 < W.heap.size := by omega
  have hlt2 : w.heap.size + 1 + 1 < W.heap.size := by omega
  have hlt3 : w.heap.size + 1 + 1 + 1 < W.heap.size := by omega
  replace hB : Below w.heap.size w W := by rw [hW]; exact hB
  have hBz := hB.size
  have hMd : RM W.drew W.drew.heap.size b M := (hM.below (hB.trans (Below.refl _ _).drew) (Nat.le_refl _)).more hBz
  have HM := Lib.hid hMd
  clear hz hW hMd
  go_region_held3 (fun w' => Held W w') (first | assumption | exact held_start _ | exact held_step (by assumption) (by assumption) | exact held_alloc (by assumption) _ | go_keep)
    (first | (go_at_call 119; refine (lost_any b S T V M R rule wear hw s d _ HM.out hn hdays hg).mono ?_; rintro e w1 ⟨rfl, hB1⟩))
  have hb1 : Below w.heap.size w w1 := hB.trans ((held_step hB1 (held_start W)).2.2.mono hBz)
  have zz0 := ((held_step hB1 (held_start W)).1 _ 0 hlt3).trans z0
  have zz1 := ((held_step hB1 (held_start W)).1 _ 1 hlt3).trans z1
  clear hB1
  go_wp2_with fail
  refine bodyPost_ret (v := vSp (Ch.read b wear ⟨s, d, rd, er⟩)) (by simp [results, Tryz.results126, go_sem, Ch.read, zz0, zz1]) rfl ⟨rfl, ?_⟩
  exact (hb1.setCell (by simp; omega) _).setCell (by simp; omega) _

end Go.Proofs.YtkfahochpnggbaaGreat
