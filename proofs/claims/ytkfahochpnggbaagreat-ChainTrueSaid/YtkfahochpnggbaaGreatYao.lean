/- Texts on the program that the proof leans on, part 15. -/
import Derived.Test.YtkfahochpnggbaaGreatYam
import Derived.Test.YtkfahochpnggbaaGreatYan
import Derived.Test.YtkfahochpnggbaaGreatYaj
set_option linter.unusedVariables false
set_option linter.unusedSimpArgs false

/- Contract of chain's span. -/
namespace Go.Proofs.YtkfahochpnggbaaGreat
open Go.RowKit

/-- What an end of all truths comes to. -/
noncomputable def endOf (mn mx : Int) (ev : Value) : Int := by
  classical
  exact if ev = vLow then mn else mx
theorem endOf_low (mn mx : Int) : endOf mn mx vLow = mn := by simp [endOf]
theorem vHigh_ne : (vHigh = vLow) = False := by
  simp only [eq_iff_iff, iff_false]
  intro h
  injection h with h
  have h := congrArg (fun a : Array Value => a[0]?) h
  simp at h
theorem endOf_high (mn mx : Int) : endOf mn mx vHigh = mx := by simp only [endOf, vHigh_ne, if_false]

set_option maxRecDepth 100000 in
set_option maxHeartbeats 4000000 in
theorem span_thick (b : Ch.Bk) (S T V M R : Value) (rule : Int) (l : List Ch.Tr) (hwe : ∀ t ∈ l, Ch.WearOk t.wear ∧ ∀ s, -1000 ≤ (t.first s).lo ∧ (t.first s).hi ≤ 1000 ∧ (t.first s).lo ≤ 1000 ∧ -1000 ≤ (t.first s).hi) (hl : l ≠ []) (hlen : l.length ≤ 256) (s d : Nat) (sb lb : Nat) (w : World) (hM : RM w w.heap.size b M) (hR : Trs w w.heap.size R l) (hn : b.secs.length ≤ 4) (hdays : b.days ≤ 30) (hg : Good b s d)
    (n0 c0 : Nat) (A0 : Option Addr) (hS : S = .slice A0 n0 c0)
    (hsb : w.heap[sb]? = some (.cells #[I s, I d] 106 (0, 0))) (hlb : w.heap[lb]? = some (cLg S T V rule b.days M R)) :
    Calls Tryz.prog 85 #[vLg S T V rule b.days M R, .func (.func 118) #[] #[.pointer (some ⟨sb, 0, none⟩), .pointer (some ⟨lb, 0, none⟩)]] w fun e w' => e = .returned (vSp ⟨Ch.minL (l.map fun t => (Ch.thickOn b s d t).lo), Ch.maxL (l.map fun t => (Ch.thickOn b s d t).hi)⟩) ∧ Below w.heap.size w w' := by
  obtain ⟨AR, cR, rfl⟩ := hR.form
  have hlow : ∀ W', Below w.heap.size w W' → Calls Tryz.prog 115 #[vLg S T V rule b.days M (.slice AR l.length cR), vLow, .func (.func 118) #[] #[.pointer (some ⟨sb, 0, none⟩), .pointer (some ⟨lb, 0, none⟩)]] W' fun e w' => e = .returned (I (Ch.minL (l.map fun t => (Ch.thickOn b s d t).lo))) ∧ Below W'.heap.size W' w' :=
    fun W' hB => reach_thick_low b S T V M _ rule l hwe hl hlen s d sb lb W' ((hM.below hB (Nat.le_refl _)).more hB.size) ((hR.below hB (Nat.le_refl _)).more hB.size) hn hdays hg n0 c0 A0 hS ((hB.block _ (heap_lt hsb)).trans hsb) ((hB.block _ (heap_lt hlb)).trans hlb)
  have hhigh : ∀ W', Below w.heap.size w W' → Calls Tryz.prog 115 #[vLg S T V rule b.days M (.slice AR l.length cR), vHigh, .func (.func 118) #[] #[.pointer (some ⟨sb, 0, none⟩), .pointer (some ⟨lb, 0, none⟩)]] W' fun e w' => e = .returned (I (Ch.maxL (l.map fun t => (Ch.thickOn b s d t).hi))) ∧ Below W'.heap.size W' w' :=
    fun W' hB => reach_thick_high b S T V M _ rule l hwe hl hlen s d sb lb W' ((hM.below hB (Nat.le_refl _)).more hB.size) ((hR.below hB (Nat.le_refl _)).more hB.size) hn hdays hg n0 c0 A0 hS ((hB.block _ (heap_lt hsb)).trans hsb) ((hB.block _ (heap_lt hlb)).trans hlb)
  subst hS
  clear hwe hl hM hR hg hsb hlb
  generalize Ch.minL (l.map fun t => (Ch.thickOn b s d t).lo) = mn at hlow ⊢
  generalize Ch.maxL (l.map fun t => (Ch.thickOn b s d t).hi) = mx at hhigh ⊢
  have hreach : ∀ ev, (ev = vLow ∨ ev = vHigh) → ∀ W', Below w.heap.size w W' → Calls Tryz.prog 115 #[.agg #[.slice A0 n0 c0, T, V, I rule, I b.days, M, .slice AR l.length cR], ev, .func (.func 118) #[] #[.pointer (some ⟨sb, 0, none⟩), .pointer (some ⟨lb, 0, none⟩)]] W' fun e w' => e = .returned (I (endOf mn mx ev)) ∧ Below W'.heap.size W' w' := by
    rintro ev (rfl | rfl) W' hB
    · rw [endOf_low]; exact hlow W' hB
    · rw [endOf_high]; exact hhigh W' hB
  have HREACH := Lib.hid hreach
  clear hlow hhigh hreach
  go_enter Tryz.func85, Tryz.ntmps85
  go_wp2_with fail
  refine name_world ?_
  intro W hW
  have hB : Below w.heap.size w W := by rw [hW]; exact ((Below.refl _ _).alloc (Nat.le_refl _) _).alloc (by simp) _
  have hlB : W.heap[w.heap.size]? = some (cLg (.slice A0 n0 c0) T V rule b.days M (.slice AR l.length cR)) := by rw [hW]; exact (Below.heap_alloc _ _ _ (by simp)).trans (heap_at _ _ rfl)
  have hres : W.heap[w.heap.size + 1]? = some (.cells #[I 0, I 0] 51 (0, 0)) := by rw [hW]; exact heap_at _ _ (by simp)
  have hz : W.heap.size = w.heap.size + 2 := by rw [hW]; simp
  have a0 := cell_of_row W _ 0 _ _ _ hlB
  have a1 := cell_of_row W _ 1 _ _ _ hlB
  have a2 := cell_of_row W _ 2 _ _ _ hlB
  have a3 := cell_of_row W _ 3 _ _ _ hlB
  have a4 := cell_of_row W _ 4 _ _ _ hlB
  have a5 := cell_of_row W _ 5 _ _ _ hlB
  have a6 := cell_of_row W _ 6 _ _ _ hlB
  have z0 := cell_of_row W _ 0 _ _ _ hres
  have z1 := cell_of_row W _ 1 _ _ _ hres
  simp only [List.getElem?_toArray, List.getElem?_cons_zero, List.getElem?_cons_succ] at a0 a1 a2 a3 a4 a5 a6 z0 z1
  have f0 : W.frozen? ⟨w.heap.size + 1, 0, none⟩ = false := by simp [World.frozen?, hres]
  have f1 : W.frozen? ⟨w.heap.size + 1, 1, none⟩ = false := by simp [World.frozen?, hres]
  have hlt0 : w.heap.size < W.heap.size := by omega
  have hlt1 : w.heap.size + 1 < W.heap.size := by omega
  have hBz := hB.size
  have HB := Lib.hid (show ∀ w', Apart (w.heap.size + 1) W w' → Below w.heap.size w w' from fun w' h => hB.trans (h.2.1.mono (Nat.le_succ _)))
  clear hz hW hlB hres
  have hlc := hlt1
  have hFW : w.heap.size + 1 ≤ W.heap.size := by omega
  go_region_held3 (fun w' => Apart (w.heap.size + 1) W w') (first | assumption | exact apart_start _ _ | exact apart_step hFW (by assumption) (by assumption) | exact apart_step hFW (by assumption) (apart_start _ _) | exact apart_set (apart_set (by assumption) _ _) _ _ | exact apart_set (apart_set (apart_step hFW (by assumption) (by assumption)) _ _) _ _ | go_keep)
    (first | (go_at_call 116; refine (low_any _).mono ?_; rintro e w1 ⟨rfl, hB1⟩; replace z0 := (hB1.cell (p := ⟨w.heap.size + 1, 0, none⟩) hlc).trans z0; replace z1 := (hB1.cell (p := ⟨w.heap.size + 1, 1, none⟩) hlc).trans z1; replace f0 := (hB1.frozen (p := ⟨w.heap.size + 1, 0, none⟩) hlc).trans f0; replace f1 := (hB1.frozen (p := ⟨w.heap.size + 1, 1, none⟩) hlc).trans f1; replace hlc := Nat.lt_of_lt_of_le hlc hB1.size)
           | (go_at_call 117; refine (high_any _).mono ?_; rintro e w1 ⟨rfl, hB1⟩; replace z0 := (hB1.cell (p := ⟨w.heap.size + 1, 0, none⟩) hlc).trans z0; replace z1 := (hB1.cell (p := ⟨w.heap.size + 1, 1, none⟩) hlc).trans z1; replace f0 := (hB1.frozen (p := ⟨w.heap.size + 1, 0, none⟩) hlc).trans f0; replace f1 := (hB1.frozen (p := ⟨w.heap.size + 1, 1, none⟩) hlc).trans f1; replace hlc := Nat.lt_of_lt_of_le hlc hB1.size)
           | (go_at_call 115; refine (HREACH.out _ (by first | exact .inl rfl | exact .inr rfl) _ (HB.out _ (by first | assumption | exact apart_start _ _))).mono ?_; rintro e w1 ⟨rfl, hB1⟩; replace z0 := (hB1.cell (p := ⟨w.heap.size + 1, 0, none⟩) hlc).trans z0; replace z1 := (hB1.cell (p := ⟨w.heap.size + 1, 1, none⟩) hlc).trans z1; replace f0 := (hB1.frozen (p := ⟨w.heap.size + 1, 0, none⟩) hlc).trans f0; replace f1 := (hB1.frozen (p := ⟨w.heap.size + 1, 1, none⟩) hlc).trans f1; replace hlc := Nat.lt_of_lt_of_le hlc hB1.size))
  have hap : Below w.heap.size w ((w1.setCell ⟨w.heap.size + 1, 0, none⟩ (I (endOf mn mx vLow))).setCell ⟨w.heap.size + 1, 1, none⟩ (I (endOf mn mx vHigh))) := HB.out _ (by assumption)
  have HAP := Lib.hid hap
  clear hap hB1
  go_wp2_with fail
  refine bodyPost_ret (v := vSp ⟨mn, mx⟩) (by simp [results, Tryz.results85, go_sem, z0, z1, endOf_low, endOf_high]) rfl ⟨rfl, HAP.out⟩

end Go.Proofs.YtkfahochpnggbaaGreat

/- What holds of every truth. -/
namespace Go.Proofs.YtkfahochpnggbaaGreat
open Go.RowKit

namespace Ch
/-- A truth whose numbers are small. -/
def TrOk (t : Tr) : Prop := WearOk t.wear ∧ ∀ s, -1000 ≤ (t.first s).lo ∧ (t.first s).hi ≤ 1000 ∧ (t.first s).lo ≤ 1000 ∧ -1000 ≤ (t.first s).hi
def SvsOk (b : Bk) : Prop := b.days ≤ 30 ∧ SecsOk b ∧ ∀ x ∈ b.svs, 0 ≤ x.day ∧ x.day ≤ b.days ∧ 0 ≤ x.read ∧ x.read ≤ 200 ∧ 0 ≤ x.err ∧ x.err ≤ 5
theorem read_bd {b : Bk} {wear : Nat → Int} (hw : WearOk wear) {x : Sv} (h : 0 ≤ x.day ∧ x.day ≤ 30 ∧ 0 ≤ x.read ∧ x.read ≤ 200 ∧ 0 ≤ x.err ∧ x.err ≤ 5) : -5 ≤ (read b wear x).lo ∧ (read b wear x).lo ≤ 600 ∧ -5 ≤ (read b wear x).hi ∧ (read b wear x).hi ≤ 600 := by
  have := lost_bd b wear hw x.sec x.day.toNat
  simp only [read]
  omega
theorem surveyedL_bd {b : Bk} {wear : Nat → Int} (hw : WearOk wear) (s : Int) (t : Sp) (ht : -1000 ≤ t.lo ∧ t.lo ≤ 1000 ∧ -1000 ≤ t.hi ∧ t.hi ≤ 1000) (l : List Sv) (hl : ∀ x ∈ l, 0 ≤ x.day ∧ x.day ≤ 30 ∧ 0 ≤ x.read ∧ x.read ≤ 200 ∧ 0 ≤ x.err ∧ x.err ≤ 5) :
    -1000 ≤ (surveyedL b wear s t l).lo ∧ (surveyedL b wear s t l).lo ≤ 1000 ∧ -1000 ≤ (surveyedL b wear s t l).hi ∧ (surveyedL b wear s t l).hi ≤ 1000 := by
  unfold surveyedL
  induction l generalizing t with
  | nil => exact ht
  | cons x l ih =>
    simp only [List.foldl_cons]
    refine ih _ ?_ (fun y hy => hl y (List.mem_cons_of_mem _ hy))
    split
    · have := read_bd (b := b) hw (hl x (List.mem_cons_self ..))
      simp only [meet]
      omega
    · exact ht
theorem surveyed_bd {b : Bk} (hb : SvsOk b) {wear : Nat → Int} (hw : WearOk wear) (s : Nat) : -1000 ≤ (surveyed b wear s).lo ∧ (surveyed b wear s).lo ≤ 1000 ∧ -1000 ≤ (surveyed b wear s).hi ∧ (surveyed b wear s).hi ≤ 1000 := by
  refine surveyedL_bd hw _ _ ?_ _ (fun x hx => ?_)
  · rcases Nat.lt_or_ge s b.secs.length with h | h
    · have := hb.2.1 _ (List.getElem_mem h)
      simp [h]
      omega
    · simp [h]
  · have := hb.2.2 x hx
    have := hb.1
    omega
theorem setFirst_ok {t : Tr} (h : TrOk t) (s : Nat) {x : Sp} (hx : -1000 ≤ x.lo ∧ x.lo ≤ 1000 ∧ -1000 ≤ x.hi ∧ x.hi ≤ 1000) : TrOk (t.setFirst s x) := by
  refine ⟨h.1, fun q => ?_⟩
  simp only [Tr.setFirst, upd]
  split
  · omega
  · exact h.2 q
theorem setWear_ok {t : Tr} (h : TrOk t) (p : Nat) {v : Int} (h0 : 0 ≤ v) (h1 : v ≤ 3) : TrOk (t.setWear p v) := ⟨wearOk_upd h.1 p h0 h1, h.2⟩
theorem settle_ok {b : Bk} (hb : SvsOk b) (l : List Nat) (t : Tr) (h : TrOk t) : TrOk (settle b t l).1 := by
  induction l generalizing t with
  | nil => exact h
  | cons s r ih =>
    simp only [settle]
    have h1 := setFirst_ok h s (surveyed_bd hb h.1 s)
    split
    · exact h1
    · exact ih _ h1
theorem tryWear_all {b : Bk} (hb : SvsOk b) {next : Tr → List Tr × Tr} (hn : ∀ t, TrOk t → (∀ u ∈ (next t).1, TrOk u) ∧ TrOk (next t).2) (p : Nat) (t : Tr) (v : Int) (ht : TrOk t) (h0 : 0 ≤ v) (h1 : v ≤ 3) :
    (∀ u ∈ (tryWear b next p t v).1, TrOk u) ∧ TrOk (tryWear b next p t v).2 := by
  have hs : TrOk (settle b (t.setWear p v) (settledN b.secs.length p)).1 := settle_ok hb _ _ (setWear_ok ht p h0 h1)
  simp only [tryWear]
  split
  · exact hn _ hs
  · exact ⟨fun u hu => by simp at hu, hs⟩
theorem wearLoop_all {b : Bk} (hb : SvsOk b) {next : Tr → List Tr × Tr} (hn : ∀ t, TrOk t → (∀ u ∈ (next t).1, TrOk u) ∧ TrOk (next t).2) (p : Nat) (lo : Int) (k : Nat) (t : Tr) (ht : TrOk t) (h0 : 0 ≤ lo) (h1 : lo + k ≤ 4) :
    (∀ u ∈ (wearLoop b next p lo k t).1, TrOk u) ∧ TrOk (wearLoop b next p lo k t).2 := by
  induction k with
  | zero => exact ⟨fun u hu => by simp [wearLoop] at hu, ht⟩
  | succ k ih =>
    have h2 := ih (by omega)
    have h3 := tryWear_all hb hn p _ (lo + k) h2.2 (by omega) (by omega)
    refine ⟨fun u hu => ?_, h3.2⟩
    simp only [wearLoop, List.mem_append] at hu
    rcases hu with hu | hu
    · exact h2.1 u hu
    · exact h3.1 u hu
theorem worn_all {b : Bk} (hb : SvsOk b) (m : Nat) (t : Tr) (ht : TrOk t) : (∀ u ∈ (worn b m t).1, TrOk u) ∧ TrOk (worn b m t).2 := by
  induction m generalizing t with
  | zero => exact ⟨fun u hu => by simp [worn] at hu; rw [hu]; exact ht, ht⟩
  | succ m ih =>
    have := secAt_ok hb.2.1 (b.secs.length - (m + 1))
    exact wearLoop_all hb (fun t ht => ih t ht) _ _ _ t ht (by omega) (by unfold wears; omega)
theorem truths_ok {b : Bk} (hb : SvsOk b) : ∀ t ∈ truths b, TrOk t :=
  (worn_all hb _ _ ⟨fun q => ⟨by simp [noTr], by simp [noTr]⟩, fun s => by simp [noTr]⟩).1
end Ch
theorem Fine.truths {b : Ch.Bk} (h : Fine b) : ∀ t ∈ Ch.truths b, Ch.TrOk t :=
  Ch.truths_ok ⟨h.days, h.secs, fun x hx => by have := h.svs x hx; exact ⟨this.day0, this.day1, this.read0, this.read1, this.err0, this.err1⟩⟩

end Go.Proofs.YtkfahochpnggbaaGreat

/- Contract of chain's span, at wears; study, at whatever is asked. -/
namespace Go.Proofs.YtkfahochpnggbaaGreat
open Go.RowKit

set_option maxRecDepth 100000 in
set_option maxHeartbeats 4000000 in
theorem span_wear (b : Ch.Bk) (S T V M R : Value) (rule : Int) (l : List Ch.Tr) (hl : l ≠ []) (hlen : l.length ≤ 256) (p : Nat) (hp : p < 4) (pb : Nat) (w : World) (hR : Trs w w.heap.size R l)
    (n0 c0 : Nat) (A0 : Option Addr) (hS : S = .slice A0 n0 c0)
    (hpb : w.heap[pb]? = some (.cells #[I p] 3 (0, 0))) :
    Calls Tryz.prog 85 #[vLg S T V rule b.days M R, .func (.func 120) #[] #[.pointer (some ⟨pb, 0, none⟩)]] w fun e w' => e = .returned (vSp ⟨Ch.minL (l.map fun t => (Ch.wearOf p t).lo), Ch.maxL (l.map fun t => (Ch.wearOf p t).hi)⟩) ∧ Below w.heap.size w w' := by
  obtain ⟨AR, cR, rfl⟩ := hR.form
  have hlow : ∀ W', Below w.heap.size w W' → Calls Tryz.prog 115 #[vLg S T V rule b.days M (.slice AR l.length cR), vLow, .func (.func 120) #[] #[.pointer (some ⟨pb, 0, none⟩)]] W' fun e w' => e = .returned (I (Ch.minL (l.map fun t => (Ch.wearOf p t).lo))) ∧ Below W'.heap.size W' w' :=
    fun W' hB => reach_wear_low b S T V M _ rule l hl hlen p hp pb W' ((hR.below hB (Nat.le_refl _)).more hB.size) n0 c0 A0 hS ((hB.block _ (heap_lt hpb)).trans hpb)
  have hhigh : ∀ W', Below w.heap.size w W' → Calls Tryz.prog 115 #[vLg S T V rule b.days M (.slice AR l.length cR), vHigh, .func (.func 120) #[] #[.pointer (some ⟨pb, 0, none⟩)]] W' fun e w' => e = .returned (I (Ch.maxL (l.map fun t => (Ch.wearOf p t).hi))) ∧ Below W'.heap.size W' w' :=
    fun W' hB => reach_wear_high b S T V M _ rule l hl hlen p hp pb W' ((hR.below hB (Nat.le_refl _)).more hB.size) n0 c0 A0 hS ((hB.block _ (heap_lt hpb)).trans hpb)
  subst hS
  clear hl hR hpb
  generalize Ch.minL (l.map fun t => (Ch.wearOf p t).lo) = mn at hlow ⊢
  generalize Ch.maxL (l.map fun t => (Ch.wearOf p t).hi) = mx at hhigh ⊢
  have hreach : ∀ ev, (ev = vLow ∨ ev = vHigh) → ∀ W', Below w.heap.size w W' → Calls Tryz.prog 115 #[.agg #[.slice A0 n0 c0, T, V, I rule, I b.days, M, .slice AR l.length cR], ev, .func (.func 120) #[] #[.pointer (some ⟨pb, 0, none⟩)]] W' fun e w' => e = .returned (I (endOf mn mx ev)) ∧ Below W'.heap.size W' w' := by
    rintro ev (rfl | rfl) W' hB
    · rw [endOf_low]; exact hlow W' hB
    · rw [endOf_high]; exact hhigh W' hB
  have HREACH := Lib.hid hreach
  clear hlow hhigh hreach
  go_enter Tryz.func85, Tryz.ntmps85
  go_wp2_with fail
  refine name_world ?_
  intro W hW
  have hB : Below w.heap.size w W := by rw [hW]; exact ((Below.refl _ _).alloc (Nat.le_refl _) _).alloc (by simp) _
  have hlB : W.heap[w.heap.size]? = some (cLg (.slice A0 n0 c0) T V rule b.days M (.slice AR l.length cR)) := by rw [hW]; exact (Below.heap_alloc _ _ _ (by simp)).trans (heap_at _ _ rfl)
  have hres : W.heap[w.heap.size + 1]? = some (.cells #[I 0, I 0] 51 (0, 0)) := by rw [hW]; exact heap_at _ _ (by simp)
  have hz : W.heap.size = w.heap.size + 2 := by rw [hW]; simp
  have a0 := cell_of_row W _ 0 _ _ _ hlB
  have a1 := cell_of_row W _ 1 _ _ _ hlB
  have a2 := cell_of_row W _ 2 _ _ _ hlB
  have a3 := cell_of_row W _ 3 _ _ _ hlB
  have a4 := cell_of_row W _ 4 _ _ _ hlB
  have a5 := cell_of_row W _ 5 _ _ _ hlB
  have a6 := cell_of_row W _ 6 _ _ _ hlB
  have z0 := cell_of_row W _ 0 _ _ _ hres
  have z1 := cell_of_row W _ 1 _ _ _ hres
  simp only [List.getElem?_toArray, List.getElem?_cons_zero, List.getElem?_cons_succ] at a0 a1 a2 a3 a4 a5 a6 z0 z1
  have f0 : W.frozen? ⟨w.heap.size + 1, 0, none⟩ = false := by simp [World.frozen?, hres]
  have f1 : W.frozen? ⟨w.heap.size + 1, 1, none⟩ = false := by simp [World.frozen?, hres]
  have hlt0 : w.heap.size < W.heap.size := by omega
  have hlt1 : w.heap.size + 1 < W.heap.size := by omega
  have hBz := hB.size
  have HB := Lib.hid (show ∀ w', Apart (w.heap.size + 1) W w' → Below w.heap.size w w' from fun w' h => hB.trans (h.2.1.mono (Nat.le_succ _)))
  clear hz hW hlB hres
  have hlc := hlt1
  have hFW : w.heap.size + 1 ≤ W.heap.size := by omega
  go_region_held3 (fun w' => Apart (w.heap.size + 1) W w') (first | assumption | exact apart_start _ _ | exact apart_step hFW (by assumption) (by assumption) | exact apart_step hFW (by assumption) (apart_start _ _) | exact apart_set (apart_set (by assumption) _ _) _ _ | exact apart_set (apart_set (apart_step hFW (by assumption) (by assumption)) _ _) _ _ | go_keep)
    (first | (go_at_call 116; refine (low_any _).mono ?_; rintro e w1 ⟨rfl, hB1⟩; replace z0 := (hB1.cell (p := ⟨w.heap.size + 1, 0, none⟩) hlc).trans z0; replace z1 := (hB1.cell (p := ⟨w.heap.size + 1, 1, none⟩) hlc).trans z1; replace f0 := (hB1.frozen (p := ⟨w.heap.size + 1, 0, none⟩) hlc).trans f0; replace f1 := (hB1.frozen (p := ⟨w.heap.size + 1, 1, none⟩) hlc).trans f1; replace hlc := Nat.lt_of_lt_of_le hlc hB1.size)
           | (go_at_call 117; refine (high_any _).mono ?_; rintro e w1 ⟨rfl, hB1⟩; replace z0 := (hB1.cell (p := ⟨w.heap.size + 1, 0, none⟩) hlc).trans z0; replace z1 := (hB1.cell (p := ⟨w.heap.size + 1, 1, none⟩) hlc).trans z1; replace f0 := (hB1.frozen (p := ⟨w.heap.size + 1, 0, none⟩) hlc).trans f0; replace f1 := (hB1.frozen (p := ⟨w.heap.size + 1, 1, none⟩) hlc).trans f1; replace hlc := Nat.lt_of_lt_of_le hlc hB1.size)
           | (go_at_call 115; refine (HREACH.out _ (by first | exact .inl rfl | exact .inr rfl) _ (HB.out _ (by first | assumption | exact apart_start _ _))).mono ?_; rintro e w1 ⟨rfl, hB1⟩; replace z0 := (hB1.cell (p := ⟨w.heap.size + 1, 0, none⟩) hlc).trans z0; replace z1 := (hB1.cell (p := ⟨w.heap.size + 1, 1, none⟩) hlc).trans z1; replace f0 := (hB1.frozen (p := ⟨w.heap.size + 1, 0, none⟩) hlc).trans f0; replace f1 := (hB1.frozen (p := ⟨w.heap.size + 1, 1, none⟩) hlc).trans f1; replace hlc := Nat.lt_of_lt_of_le hlc hB1.size))
  have hap : Below w.heap.size w ((w1.setCell ⟨w.heap.size + 1, 0, none⟩ (I (endOf mn mx vLow))).setCell ⟨w.heap.size + 1, 1, none⟩ (I (endOf mn mx vHigh))) := HB.out _ (by assumption)
  have HAP := Lib.hid hap
  clear hap hB1
  go_wp2_with fail
  refine bodyPost_ret (v := vSp ⟨mn, mx⟩) (by simp [results, Tryz.results85, go_sem, z0, z1, endOf_low, endOf_high]) rfl ⟨rfl, HAP.out⟩

/-- What study leaves, whatever is asked. -/
def StudyPost (b : Ch.Bk) (S T V : Value) (proper : Bool) (w : World) : Ending → World → Prop := fun e w' =>
  (∃ L, e = .returned (.tuple #[L, I (Ch.studyE b proper)]) ∧ (Ch.studyE b proper ≠ 0 → L = vLg0) ∧
    (Ch.studyE b proper = 0 → Ch.valid b = true ∧ proper = true ∧ Ch.truths b ≠ [] ∧ ∃ r R, L = vLg S T V b.rule b.days (.map (some r)) R ∧ RM w' w'.heap.size b (.map (some r)) ∧ Trs w' w'.heap.size R (Ch.truths b))) ∧ Below w.heap.size w w'
theorem study_any (b : Ch.Bk) (S T V : Value) (proper : Bool) (w : World) (hb : RB w w.heap.size b S T V) :
    Calls Tryz.prog 81 #[vBk S T V b.rule b.days, .bool proper] w (StudyPost b S T V proper w) := by
  by_cases hv : Ch.valid b = true
  · cases proper with
    | false =>
      refine (study_bad b S T V false w hb (.inr rfl)).mono ?_
      rintro e w' ⟨rfl, hB⟩
      have : Ch.studyE b false = 11 := by simp [Ch.studyE, hv]
      exact ⟨⟨_, rfl, fun _ => rfl, fun h => by rw [this] at h; cases h⟩, hB⟩
    | true =>
      refine (study_ok b S T V w hb hv).mono ?_
      rintro e w' ⟨⟨M, R, rfl, ⟨r, rfl⟩, hM, hR⟩, hB⟩
      by_cases ht : Ch.truths b = []
      · have : Ch.studyE b true = 12 := by simp [Ch.studyE, hv, ht]
        exact ⟨⟨_, rfl, fun _ => by rw [studyL, if_pos ht], fun h => by rw [this] at h; cases h⟩, hB⟩
      · have : Ch.studyE b true = 0 := by simp [Ch.studyE, hv, ht]
        exact ⟨⟨_, rfl, fun h => absurd this h, fun _ => ⟨hv, rfl, ht, r, R, by rw [studyL, if_neg ht], hM, hR⟩⟩, hB⟩
  · have hv : Ch.valid b = false := by simpa using hv
    refine (study_bad b S T V proper w hb (.inl hv)).mono ?_
    rintro e w' ⟨rfl, hB⟩
    have : Ch.studyE b proper = 10 := by simp [Ch.studyE, hv]
    exact ⟨⟨_, rfl, fun _ => rfl, fun h => by rw [this] at h; cases h⟩, hB⟩

end Go.Proofs.YtkfahochpnggbaaGreat
