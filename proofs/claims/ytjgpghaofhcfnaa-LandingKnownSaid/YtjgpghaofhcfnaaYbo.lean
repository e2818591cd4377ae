/- Texts on the program that the proof leans on, part 41. -/
import Derived.Test.YtjgpghaofhcfnaaYbj
import Derived.Test.YtjgpghaofhcfnaaYbn
import Derived.Test.YtjgpghaofhcfnaaYbc
import Derived.Test.YtjgpghaofhcfnaaYba
set_option linter.unusedVariables false
set_option linter.unusedSimpArgs false

namespace Go.Proofs.Ytjgpghaofhcfnaa.Ld
structure Kn where
 heights : List Int
 f0 : Int
 f1 : Int
 empty : Int
def Kn.tr (k : Kn) : Tr := ⟨k.f0, k.f1⟩
def Kn.high (k : Kn) (h : Nat) : Int := k.heights.getD h 0
structure Truly (b : Bk) (k : Kn) : Prop where
 len : k.heights.length = b.tides.length
 at0 : b.s0.floor.lo ≤ k.f0 ∧ k.f0 ≤ b.s0.floor.hi
 at1 : b.s1.floor.lo ≤ k.f1 ∧ k.f1 ≤ b.s1.floor.hi
 empty : b.empty.lo ≤ k.empty ∧ k.empty ≤ b.empty.hi
 high : ∀ h, h < b.tides.length → (tide b h).lo ≤ k.high h ∧ k.high h ≤ (tide b h).hi
def rightSd (k : Kn) (s : Sd) : Sd := { s with deep := k.high s.hour.toNat - k.tr.at s.shore.toNat }
def rightTo (b : Bk) (k : Kn) (n : Nat) : List Sd := ((b.sounds.take n).map (rightSd k)).filter fun s => between s.deep 0 120
def rightly (b : Bk) (k : Kn) : Bk := { b with sounds := rightTo b k b.sounds.length }
theorem rightTo_yes {b : Bk} {k : Kn} {n : Nat} (hn : n < b.sounds.length) (h : between (rightSd k b.sounds[n]).deep 0 120 = true) : rightTo b k (n + 1) = rightTo b k n ++ [rightSd k b.sounds[n]] := by
 unfold rightTo
 rw [List.take_succ_eq_append_getElem hn, List.map_append, List.filter_append]
 simp [h]
theorem rightTo_no {b : Bk} {k : Kn} {n : Nat} (hn : n < b.sounds.length) (h : between (rightSd k b.sounds[n]).deep 0 120 = false) : rightTo b k (n + 1) = rightTo b k n := by
 unfold rightTo
 rw [List.take_succ_eq_append_getElem hn, List.map_append, List.filter_append]
 simp [h]
theorem rightTo_len (b : Bk) (k : Kn) (n : Nat) : (rightTo b k n).length ≤ b.sounds.length := by
 unfold rightTo
 refine Nat.le_trans (List.length_filter_le _ _) ?_
 rw [List.length_map, List.length_take]
 omega
theorem mem_right {b : Bk} {k : Kn} {n : Nat} {s : Sd} (h : s ∈ rightTo b k n) : (∃ y ∈ b.sounds, s = rightSd k y) ∧ 0 ≤ s.deep ∧ s.deep ≤ 120 := by
 unfold rightTo at h
 rw [List.mem_filter] at h
 obtain ⟨h1, h2⟩ := h
 obtain ⟨y, hy, rfl⟩ := List.mem_map.1 h1
 refine ⟨⟨y, List.mem_of_mem_take hy, rfl⟩, ?_⟩
 simpa [between] using h2
theorem rightly_valid {b : Bk} {k : Kn} (hv : valid b = true) : valid (rightly b k) = true := by
 simp only [valid, Bool.and_eq_true] at hv ⊢
 obtain ⟨⟨⟨⟨p1, p2⟩, p3⟩, p4⟩, p5⟩ := hv
 refine ⟨⟨⟨⟨?_, p2⟩, p3⟩, p4⟩, ?_⟩
 · have h1 := sized_bd p1
   have h2 := rightTo_len b k b.sounds.length
   have h3 : (rightly b k).sounds.length ≤ 6 := Nat.le_trans h2 h1.2.2.2.2.2.2
   simp only [sized, bnds, between, List.all_cons, List.all_nil, Bool.and_true, Bool.and_eq_true, decide_eq_true_eq] at p1 ⊢
   refine ⟨p1.1, p1.2.1, p1.2.2.1, by omega, by omega⟩
 · refine List.all_eq_true.2 fun s hs => ?_
   obtain ⟨⟨y, hy, rfl⟩, h1, h2⟩ := mem_right hs
   have h3 := List.all_eq_true.1 p5 y hy
   simp only [okSound, Bool.and_eq_true] at h3 ⊢
   refine ⟨h3.1, ?_⟩
   show (decide (0 ≤ (rightSd k y).deep) && decide ((rightSd k y).deep ≤ 120)) = true
   rw [decide_eq_true h1, decide_eq_true h2]
   rfl
theorem right_okAt {b : Bk} {k : Kn} (hv : valid b = true) (h : Nat) : okAt (rightly b k) k.tr h (k.high h) = true := by
 obtain ⟨-, -, -, -, p5⟩ := valid_parts hv
 have key : ∀ (sh : Nat), (sh = 0 ∨ sh = 1) → ∀ d ∈ depths (rightly b k).sounds h sh, d = k.high h - k.tr.at sh := by
  intro sh hsh d hd
  unfold depths at hd
  obtain ⟨s, hs, rfl⟩ := List.mem_map.1 hd
  obtain ⟨hs1, hs2⟩ := List.mem_filter.1 hs
  obtain ⟨⟨y, hy, rfl⟩, -⟩ := mem_right hs1
  simp only [atSlip, Bool.and_eq_true, decide_eq_true_eq] at hs2
  have e1 : y.hour = h := hs2.1
  have e2 : y.shore = sh := hs2.2
  show k.high y.hour.toNat - k.tr.at y.shore.toNat = _
  rw [e1, e2, Int.toNat_natCast, Int.toNat_natCast]
 simp only [okAt, Bool.and_eq_true, List.all_eq_true, decide_eq_true_eq]
 exact ⟨fun d hd => key 0 (.inl rfl) d hd, fun d hd => key 1 (.inr rfl) d hd⟩
theorem right_water {b : Bk} {k : Kn} (hv : valid b = true) (hk : Truly b k) {h : Nat} (hh : h < b.tides.length) :
 water (rightly b k) k.tr h ≠ none ∧ (water (rightly b k) k.tr h).lo ≤ k.high h ∧ k.high h ≤ (water (rightly b k) k.tr h).hi := by
 have h1 := hk.high h hh
 have e : tide (rightly b k) h = tide b h := rfl
 exact water_in (by rw [e]; exact h1.1) (by rw [e]; exact h1.2) (right_okAt hv h)
theorem right_truth {b : Bk} {k : Kn} (hv : valid b = true) (hk : Truly b k) : k.tr ∈ truths (rightly b k) := by
 obtain ⟨-, -, -, -, p5⟩ := valid_parts hv
 rw [mem_truths]
 refine ⟨mem_digs.2 ⟨hk.at0, hk.at1⟩, fun s hs => ?_⟩
 obtain ⟨⟨y, hy, rfl⟩, -⟩ := mem_right hs
 have h := sound_bd p5 hy
 exact (right_water hv hk (show y.hour.toNat < b.tides.length by omega)).1
def afloat (b : Bk) (k : Kn) (sh h : Nat) (y : Int) : Bool := decide (k.tr.at sh + k.empty + sunk b y + b.under ≤ k.high h) && between (k.high h) (shore b sh).lo (shore b sh).hi
theorem afloat_iff {b : Bk} {k : Kn} {sh h : Nat} {y : Int} : afloat b k sh h y = true ↔ k.tr.at sh + k.empty + sunk b y + b.under ≤ k.high h ∧ (shore b sh).lo ≤ k.high h ∧ k.high h ≤ (shore b sh).hi := by
 unfold afloat between
 rw [Bool.and_eq_true, Bool.and_eq_true, decide_eq_true_eq, decide_eq_true_eq, decide_eq_true_eq]
theorem worst_afloat {b : Bk} {k : Kn} (hv : valid b = true) (hk : Truly b k) {sh h : Nat} (hh : h < b.tides.length) {y : Int} (hw : atWorst (rightly b k) sh h y = true) : afloat (rightly b k) k sh h y = true := by
 have h1 := List.all_eq_true.1 hw _ (right_truth hv hk)
 obtain ⟨-, h2, h3⟩ := right_water hv hk hh
 simp only [inside, window, Bool.and_eq_true] at h1
 have h4 := of_decide_eq_true h1.2
 obtain ⟨h5, h6⟩ := Int.max_le.1 (of_decide_eq_true h1.1)
 have he := hk.empty
 have e : (rightly b k).empty = b.empty := rfl
 rw [e] at h6
 exact afloat_iff.2 ⟨by omega, by omega, by omega⟩
theorem best_afloat {b : Bk} {k : Kn} (hv : valid b = true) (hk : Truly b k) {sh h : Nat} (hh : h < b.tides.length) {y : Int} (hf : afloat (rightly b k) k sh h y = true) : atBest (rightly b k) sh h y = true := by
 obtain ⟨h1, h2, h3⟩ := afloat_iff.1 hf
 obtain ⟨-, h4, h5⟩ := right_water hv hk hh
 refine List.any_eq_true.2 ⟨_, right_truth hv hk, ?_⟩
 have he := hk.empty
 simp only [isEmpty, meet, window, Bool.not_eq_true']
 have e : (rightly b k).empty = b.empty := rfl
 rw [e]
 exact decide_eq_false (Int.not_lt.2 (Int.le_trans (Int.max_le.2 ⟨h4, Int.max_le.2 ⟨h2, by omega⟩⟩ : _ ≤ k.high h) (Int.le_min.2 ⟨h5, h3⟩)))
theorem true_spec {b : Bk} {k : Kn} (hv : valid b = true) (hk : Truly b k) {q m : Nat} (hq : q < b.tides.length) (hm : m = 0 ∨ m = 1) {y : Int} (h0 : 0 ≤ y) (h1 : y ≤ 200) :
 right (rightly b k) = true ∧ wrongL (rightly b k) = [] ∧ studyE (rightly b k) (isHour (rightly b k) q) = 0 ∧ studyE (rightly b k) (isShore m) = 0 ∧ studyE (rightly b k) (isLoad y) = 0 ∧
  between (k.high q) (heightR (rightly b k) q).lo (heightR (rightly b k) q).hi = true ∧ between (k.tr.at m) (floorR (rightly b k) m).lo (floorR (rightly b k) m).hi = true ∧
  (∃ kind, landsR (rightly b k) m q y = (kind, 0) ∧ between kind 0 2 = true ∧ (kind = 2 → afloat (rightly b k) k m q y = true) ∧ (kind = 0 → afloat (rightly b k) k m q y = false)) ∧
  (∀ v, mostR (rightly b k) m q = (v, 0) → afloat (rightly b k) k m q v = true) ∧
  (∀ v, firstR (rightly b k) m y = (v, 0) → ∃ f : Nat, v = f ∧ f < b.tides.length ∧ afloat (rightly b k) k m f y = true) ∧
  Ch.climbs (bothL (rightly b k) y) b.tides.length = true ∧ (∀ z ∈ bothL (rightly b k) y, ∃ f : Nat, z = f ∧ f < b.tides.length ∧ afloat (rightly b k) k 0 f y = true ∧ afloat (rightly b k) k 1 f y = true) := by
 have hx := rightly_valid (k := k) hv
 have hqx : q < (rightly b k).tides.length := hq
 have hT := right_truth hv hk
 have hne : truths (rightly b k) ≠ [] := List.ne_nil_of_mem hT
 have hp : possible (rightly b k) = true := possible_iff.2 ⟨_, hT⟩
 have hr : right (rightly b k) = true := by unfold right; rw [hx, hp]; rfl
 have eX := studyE_in hx
 rw [if_neg hne] at eX
 have i1 : studyE (rightly b k) (isHour (rightly b k) q) = 0 := by rw [hour_in hqx]; exact eX
 have i2 : studyE (rightly b k) (isShore m) = 0 := by rw [isShore_in hm]; exact eX
 have i3 : studyE (rightly b k) (isLoad y) = 0 := by rw [isLoad_in h0 h1]; exact eX
 obtain ⟨w1, w2, w3⟩ := right_water hv hk hq
 have bw : ∀ {n lo hi : Int}, lo ≤ n → n ≤ hi → between n lo hi = true := fun a c => by unfold between; rw [decide_eq_true a, decide_eq_true c]; rfl
 refine ⟨hr, ?_, i1, i2, i3, ?_, ?_, ?_, ?_, ?_, ?_, ?_⟩
 · exact (wrong_spec hx rfl).2.1.2 hr
 · have h2 := (height_hull (rightly b k) q).cover _ (List.mem_map.2 ⟨_, hT, rfl⟩) w1
   unfold heightR
   rw [if_pos i1, Int.toNat_natCast]
   exact bw (by omega) (by omega)
 · obtain ⟨H1, H2⟩ := known_hull (truths (rightly b k))
   have c1 := H1.cover _ (List.mem_map.2 ⟨_, hT, rfl⟩) (just_ne _)
   have c2 := H2.cover _ (List.mem_map.2 ⟨_, hT, rfl⟩) (just_ne _)
   unfold floorR
   rw [if_pos i2]
   rcases hm with rfl | rfl
   · rw [if_pos (show ((0 : Nat) : Int) = 0 from rfl)]; exact bw c1.1 c1.2
   · rw [if_neg (show ¬ ((1 : Nat) : Int) = 0 by decide)]; exact bw c2.1 c2.2
 · refine ⟨_, by rw [landsR_in hx hqx hm h0 h1, if_neg hne], ?_, ?_, ?_⟩
   · unfold lands
     split
     · rfl
     · split <;> rfl
   · intro h; exact worst_afloat hv hk hq (lands_two.1 h)
   · intro h
     cases hf : afloat (rightly b k) k m q y with
     | false => rfl
     | true =>
      have hb := best_afloat hv hk hq hf
      unfold lands at h
      rw [hb] at h
      split at h <;> simp at h
 · intro v hv2
   rw [mostR_in hx hqx hm, if_neg hne] at hv2
   rcases findR_cases (fun k' => atWorst (rightly b k) m q (200 - (k' : Int))) (fun k' => 200 - (k' : Int)) 201 with ⟨h2, -⟩ | ⟨j, hj, h2, -, h4⟩
   · rw [h2] at hv2; cases hv2
   · rw [h4] at hv2
     injection hv2 with e1 e2
     rw [← e1]
     exact worst_afloat hv hk hq h2
 · intro v hv2
   rw [firstR_in hx hm h0 h1, if_neg hne] at hv2
   rcases findR_cases (fun k' => atWorst (rightly b k) m k' y) (fun k' => (k' : Int)) (rightly b k).tides.length with ⟨h2, -⟩ | ⟨j, hj, h2, -, h4⟩
   · rw [h2] at hv2; cases hv2
   · rw [h4] at hv2
     injection hv2 with e1 e2
     exact ⟨j, e1.symm, hj, worst_afloat hv hk hj h2⟩
 · rw [bothL_in hx h0 h1, if_neg hne]
   exact Ch.climbs_someOf _ _
 · intro z hz
   rw [bothL_in hx h0 h1, if_neg hne] at hz
   obtain ⟨f, rfl, hf, hF⟩ := Ch.mem_someOf.1 hz
   simp only [bothAt, Bool.and_eq_true] at hF
   exact ⟨f, rfl, hf, worst_afloat hv hk hf hF.1, worst_afloat hv hk hf hF.2⟩
end Go.Proofs.Ytjgpghaofhcfnaa.Ld
namespace Go.Proofs.Ytjgpghaofhcfnaa
open Go.RowKit
def Ld.choose (l : List Int) (n : Int) : Int := if l.length = 0 then 0 else l.getD (n % (l.length : Int)).toNat 0
def Ld.within (s : Ld.Sp) (n : Int) : Int := s.lo + n % (s.hi - s.lo + 1)
theorem Ld.within_in {s : Ld.Sp} (h : s.lo ≤ s.hi) (n : Int) : s.lo ≤ Ld.within s n ∧ Ld.within s n ≤ s.hi := by
 have hp0 := Int.emod_nonneg n (b := s.hi - s.lo + 1) (by omega)
 have hp1 := Int.emod_lt_of_pos n (show 0 < s.hi - s.lo + 1 by omega)
 unfold Ld.within
 omega
set_option maxHeartbeats 400000 in
theorem mod_great (n many : Int) (h0 : 0 < many) (hm : many ≤ 9223372036854775807) (w : World) :
 Calls Try.prog 16 #[I n, I many] w fun e w' => e = .returned (I (n % many)) ∧ Below w.heap.size w w' := by
 have h1 : ¬ many ≤ 0 := by omega
 have h2 : (many == 0) = false := by simp; omega
 have hp := Int.emod_nonneg n (b := many) (by omega)
 have hq := Int.emod_lt_of_pos n h0
 by_cases hc : 0 ≤ n ∨ many ∣ n
 · have h3 : n.tmod many = n % many := by rw [Int.tmod_eq_emod, if_pos hc]; simp
   have h4 : ¬ n % many < 0 := by omega
   clear hc
   go_enter Try.func16, Try.ntmps16
   go_wp2
   go_ret
   exact ⟨rfl, Below.refl _ _⟩
 · have h3 : n.tmod many = n % many - many := by rw [Int.tmod_eq_emod, if_neg hc]; omega
   have h4 : n % many - many < 0 := by omega
   have h5 : IntKind.i64.wrap (n % many - many + many) = n % many := by rw [IntWalk.i64_in] <;> omega
   clear hc
   go_enter Try.func16, Try.ntmps16
   go_wp2
   go_ret
   exact ⟨rfl, Below.refl _ _⟩
set_option maxHeartbeats 1000000 in
theorem chooseE_any (l : List Int) (v : Value) (n : Int) (w : World) (hv : Sl w w.heap.size 1 v l.length (l.map I)) :
 Calls Try.prog 48 #[v, I n] w fun e w' => e = .returned (I (Ld.choose l n)) ∧ Below w.heap.size w w' := by
 have hm := hv.le
 unfold maxLen at hm
 obtain ⟨A, c, rfl⟩ := hv.form
 by_cases hn : l.length = 0
 · have hn' : (l.length : Int) = 0 := by omega
   have hr : Ld.choose l n = 0 := by unfold Ld.choose; rw [if_pos hn]
   have HN := Lib.hid hn
   rw [hr]
   clear hn hr
   go_enter Try.func48, Try.ntmps48
   go_wp2_with fail
   go_ret
   exact ⟨rfl, Below.refl _ _⟩
 · have hn' : ¬ (l.length : Int) = 0 := by omega
   have hb : ((l.length : Int) == 0) = false := beq_eq_false_iff_ne.2 hn'
   have hp0 := Int.emod_nonneg n (b := (l.length : Int)) (by omega)
   have hp1 := Int.emod_lt_of_pos n (show 0 < (l.length : Int) by omega)
   obtain ⟨r, hr⟩ : ∃ r, n % (l.length : Int) = r := ⟨_, rfl⟩
   rw [hr] at hp0 hp1
   obtain ⟨k, rfl⟩ : ∃ k : Nat, r = k := ⟨r.toNat, by omega⟩
   have hk := hr
   have hk2 : k < l.length := by omega
   have he : Ld.choose l n = l[k] := by
    unfold Ld.choose
    rw [if_neg hn, hk, Int.toNat_natCast, List.getD_eq_getElem?_getD, List.getElem?_eq_getElem hk2]
    rfl
   rw [he]
   clear hr hp0 hp1 he
   have hki : (k : Int) < l.length := by omega
   have HM := fun W => mod_great n l.length (by omega) (by omega) W
   rw [hk] at HM
   have HMM := Lib.hid HM
   have HV := Lib.hid hv
   clear hn hm HM hv hk
   go_enter Try.func48, Try.ntmps48
   go_wp2_with fail
   refine (HMM.out _).mono ?_
   rintro e w1 ⟨rfl, hB1⟩
   obtain ⟨b', off', c', hv, hb', ck⟩ := (HV.out.below hB1 (Nat.le_refl _)).int hk2
   injection hv with hA _ hc
   subst hA hc
   have HB1 := Lib.hid hB1
   clear hB1
   go_wp2_with fail
   go_ret
   exact ⟨rfl, HB1.out⟩
set_option maxHeartbeats 2000000 in
theorem withinE_any (s : Ld.Sp) (n : Int) (h0 : -40 ≤ s.lo) (h1 : s.lo ≤ s.hi) (h2 : s.hi ≤ 200) (w : World) :
 Calls Try.prog 31 #[vSp s, I n] w fun e w' => e = .returned (I (Ld.within s n)) ∧ Below w.heap.size w w' := by
 obtain ⟨a, b⟩ := s
 replace h0 : -40 ≤ a := h0
 replace h1 : a ≤ b := h1
 replace h2 : b ≤ 200 := h2
 obtain ⟨q, hq⟩ : ∃ q, n % (b - a + 1) = q := ⟨_, rfl⟩
 have he : Ld.within ⟨a, b⟩ n = a + q := by unfold Ld.within; rw [hq]
 rw [he]
 have hp0 := Int.emod_nonneg n (b := b - a + 1) (by omega)
 have hp1 := Int.emod_lt_of_pos n (show 0 < b - a + 1 by omega)
 rw [hq] at hp0 hp1
 have e1 : IntKind.i64.wrap (b - a) = b - a := IntWalk.i64_in _ (by omega)
 have e2 : IntKind.i64.wrap (b - a + 1) = b - a + 1 := IntWalk.i64_in _ (by omega)
 have e3 : IntKind.i64.wrap (a + q) = a + q := IntWalk.i64_in _ (by omega)
 have HM : ∀ W, Calls Try.prog 16 #[I n, I (b - a + 1)] W fun e w' => e = .returned (I q) ∧ Below W.heap.size W w' := fun W => by
  have := mod_any n (b - a + 1) (by omega) (by omega) W
  rw [hq] at this
  exact this
 have HMM := Lib.hid HM
 clear HM hq he
 go_enter Try.func31, Try.ntmps31
 go_wp2_with fail
 refine name_world ?_
 intro W hW
 have hB : Below w.heap.size w W := by rw [hW]; exact (Below.refl _ _).alloc (Nat.le_refl _) _
 have hr : W.heap[w.heap.size]? = some (.cells #[I a, I b] 24 (0, 0)) := by rw [hW]; exact heap_at _ _ rfl
 have hlt : w.heap.size < W.heap.size := heap_lt hr
 have c0 := cell_of_row W _ 0 _ _ _ hr
 have c1 := cell_of_row W _ 1 _ _ _ hr
 simp only [List.getElem?_toArray, List.getElem?_cons_zero, List.getElem?_cons_succ] at c0 c1
 have HB := Lib.hid hB
 clear hW hr hB
 go_region_held3 (fun w' => Held W w') (first | assumption | exact held_start _ | exact held_step (by assumption) (by assumption) | exact held_step (by assumption) (held_start _) | go_keep)
  (first | (go_at_call 16; refine (HMM.out _).mono ?_; rintro e w1 ⟨rfl, hB1⟩))
 all_goals
  rename_i hHE
  have hbX := HB.out.trans (hHE.2.2.mono HB.out.size)
  have HBX := Lib.hid hbX
  clear hbX
  go_wp2_with fail
  go_ret
  exact ⟨rfl, HBX.out⟩
set_option maxHeartbeats 2000000 in
theorem inches_any (b : Ld.Bk) (T D : Value) (y : Int) (h0 : 0 ≤ y) (h1 : y ≤ 200) (hs : 1 ≤ b.sink) (hs2 : b.sink ≤ 20) (w : World) :
 Calls Try.prog 61 #[vBk T D b, I y] w fun e w' => e = .returned (I (Ld.sunk b y)) ∧ Below w.heap.size w w' := by
 have e1 : IntKind.i64.wrap (y + b.sink) = y + b.sink := IntWalk.i64_in _ (by omega)
 have e2 : IntKind.i64.wrap (y + b.sink - 1) = y + b.sink - 1 := IntWalk.i64_in _ (by omega)
 have e3 : (y + b.sink - 1).tdiv b.sink = Ld.sunk b y := by unfold Ld.sunk; rw [Int.tdiv_eq_ediv_of_nonneg (by omega)]
 have hk : Ld.sunk b y ≤ 300 := by unfold Ld.sunk; exact Int.le_trans (Int.ediv_le_self _ (by omega)) (by omega)
 have hk0 : 0 ≤ Ld.sunk b y := by unfold Ld.sunk; exact Int.ediv_nonneg (by omega) (by omega)
 have e4 : IntKind.i64.wrap (Ld.sunk b y) = Ld.sunk b y := IntWalk.i64_in _ (by omega)
 have hz : (b.sink == 0) = false := by simp; omega
 have hz2 : ¬ b.sink = 0 := by omega
 obtain ⟨u, hu⟩ : ∃ u, Ld.sunk b y = u := ⟨_, rfl⟩
 rw [hu] at e3 e4 ⊢
 clear h0 h1 hs hs2 hk hk0 hu
 go_enter Try.func61, Try.ntmps61
 go_wp2_with fail
 go_ret
 exact ⟨rfl, (Below.refl _ _).alloc (Nat.le_refl _) _⟩
end Go.Proofs.Ytjgpghaofhcfnaa
