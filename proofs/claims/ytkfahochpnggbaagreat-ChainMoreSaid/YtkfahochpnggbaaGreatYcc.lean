/- Proved: for every book of a chain and any two numbers prowlaw01.ChainMore returns true and leaves its arguments as they were. Conditions: none beyond the given row. -/
import Derived.Test.YtkfahochpnggbaaGreatYcb
import Derived.Test.YtkfahochpnggbaaGreatYbs
set_option linter.unusedVariables false
set_option linter.unusedSimpArgs false

/- The statement of prowlaw01.ChainMore, proved: for every book, any survey and any two numbers the call returns true, and each argument reads as it did. -/
namespace Go.Proofs.YtkfahochpnggbaaGreat
open Go.ChangeShapes Go.WideShapes Go.ChangeAt Go.RowKit

section
open Go.Deep
variable {H : Type} {enc : TypeId × Value → H} {w : World} {base : Nat} {spare : Nat → Bool} {held : Bool}
set_option maxRecDepth 100000 in
theorem open_fourN {r : Reach} {b0 : Nat} {v : Value} {d : DataW H} {p : List MemPlace} (hv : Value.okWide Tryz.prog w r b0 64 v) (h : DataW.Trod enc Tryz.prog w base spare held 64 v d p) :
    ∃ a b c e, v = .agg #[I a, I b, I c, I e] := by
  have hv' := hv
  simp only [Value.okWide, Tryz.underlying64] at hv'
  obtain ⟨cs, rfl, hsz, -⟩ := hv'
  obtain ⟨fuel, hf⟩ := h
  obtain ⟨xs, m, -, -, -, hlen, hg⟩ := DataW.trod_array Tryz.underlying64 hf
  obtain ⟨cs⟩ := cs
  obtain ⟨c0, c1, c2, c3, rfl⟩ := list4 (l := cs) (hsz.trans (by kernel_rfl : Tryz.prog.cellsOf 64 = 4))
  obtain ⟨y0, y1, y2, y3, rfl⟩ := list4 hlen
  have k3 : Tryz.prog.cellsOf 3 = 1 := by kernel_rfl
  have h0 : DataW.trod enc Tryz.prog w base spare held m 3 (([c0, c1, c2, c3].drop (0 * Tryz.prog.cellsOf 3)).take (Tryz.prog.cellsOf 3)) = some y0 := hg 0 (by omega)
  have h1 : DataW.trod enc Tryz.prog w base spare held m 3 (([c0, c1, c2, c3].drop (1 * Tryz.prog.cellsOf 3)).take (Tryz.prog.cellsOf 3)) = some y1 := hg 1 (by omega)
  have h2 : DataW.trod enc Tryz.prog w base spare held m 3 (([c0, c1, c2, c3].drop (2 * Tryz.prog.cellsOf 3)).take (Tryz.prog.cellsOf 3)) = some y2 := hg 2 (by omega)
  have h3 : DataW.trod enc Tryz.prog w base spare held m 3 (([c0, c1, c2, c3].drop (3 * Tryz.prog.cellsOf 3)).take (Tryz.prog.cellsOf 3)) = some y3 := hg 3 (by omega)
  clear hsz hlen hg hf hv
  rw [k3] at h0 h1 h2 h3
  obtain ⟨a, ha0⟩ := read_int h0
  obtain ⟨b, ha1⟩ := read_int h1
  obtain ⟨c, ha2⟩ := read_int h2
  obtain ⟨e, ha3⟩ := read_int h3
  have hb0 : c0 = I a := one_of ha0
  have hb1 : c1 = I b := one_of ha1
  have hb2 : c2 = I c := one_of ha2
  have hb3 : c3 = I e := one_of ha3
  exact ⟨a, b, c, e, by rw [hb0, hb1, hb2, hb3]⟩
end

set_option maxRecDepth 100000 in
theorem chainMore_lifted (os : Os) (started : os.Started) (H : Type) (enc : TypeId × Value → H) :
    ReturnsInHanded {} Tryz.checked os 8 .any (Rows.chainMoreSpec.pre6 enc Tryz.prog Tryz.f8 Rows.chainMoreRow.domain false) (Rows.chainMoreSpec.post enc Tryz.prog Tryz.f8 false true false false) := by
  refine returnsInHanded_of_change (C := Tryz.checked) knob_own started (by kernel_rfl) Tryz.func8
    (ChangeSpec.witness6 (enc := enc) (C := Tryz.checked) false ⟨#[], #[.agg #[.slice none 0 0, .slice none 0 0, .slice none 0 0, .int .i64 0, .int .i64 0], .agg #[.int .i64 0, .int .i64 0, .int .i64 0, .int .i64 0], .agg #[.int .i64 0, .int .i64 0]], []⟩ 8 (by kernel_rfl) (by kernel_rfl) (by kernel_rfl) (by kernel_rfl)) ?_
  intro W base args ds gs before hval0 hW hcnd _
  have hval : ∀ (j : Nat) t v, Tryz.f8.params[j]? = some t → args[j]? = some v → Value.okWide Tryz.prog W .any base t v := hval0
  have hW' := hW
  obtain ⟨p, q, hA0, hV, rfl, hfz, hnd⟩ := hW
  have hA : DataW.TrodAll enc Tryz.prog W 0 (fun _ => true) true Tryz.f8.params.toList args.toList ds p := hA0
  rw [Tryz.params8] at hA hval
  obtain ⟨v0, v1, v2, d0, d1, d2, p0, p1, p2, rfl, rfl, rfl, h0, h1, h2⟩ := trodAll_three hA
  obtain ⟨rfl, rfl⟩ := trodVars_none hV
  clear hA0 hval0
  simp only [List.append_nil] at hW'
  have hlt := hW'.lt
  obtain ⟨b, S, T, V, rfl, hRB⟩ := open_book (hval 0 26 v0 rfl rfl) h0
  obtain ⟨m0, m1, m2, m3, rfl⟩ := open_fourN (hval 1 64 v1 rfl rfl) h1
  obtain ⟨n0, n1, rfl⟩ := open_two (hval 2 27 v2 rfl rfl) h2
  refine (ChainMore_any b S T V m0 m1 m2 m3 n0 n1 W hRB).mono fun e W' ⟨he, hb⟩ => ?_
  subst he
  refine ⟨_, rfl, post_kept (pa := p0 ++ (p1 ++ p2)) (pv := []) hW' (fun _ _ _ => trodAll_mk1 (shut_bool Tryz.underlying4 _)) (fun sp hsp => trodAll_mk3 ?_ ?_ ?_) (fun _ _ => rfl) (by simp) hb (ok_one (by kernel_rfl) rfl (okWide_bool_mk Tryz.underlying4 _))⟩
  · exact WideElems.Trod_stays laid_out (by kernel_rfl) (of_decide_eq_true (by kernel_rfl)) h0 (fun x hx => hb.same (hlt x (List.mem_append_left _ (List.mem_append_left _ hx)))) (fun x hx => hsp x (List.mem_append_left _ (List.mem_append_left _ hx)))
  · exact WideElems.Trod_stays laid_out (by kernel_rfl) (of_decide_eq_true (by kernel_rfl)) h1 (fun x hx => hb.same (hlt x (List.mem_append_left _ (List.mem_append_right _ hx)))) (fun x hx => hsp x (List.mem_append_left _ (List.mem_append_right _ hx)))
  · exact WideElems.Trod_stays laid_out (by kernel_rfl) (of_decide_eq_true (by kernel_rfl)) h2 (fun x hx => hb.same (hlt x (List.mem_append_right _ hx))) (fun x hx => hsp x (List.mem_append_right _ hx))

theorem chainMore_over : Rows.chainMoreRow.holds Tryz.pinned (OpenSpec.ofChange Rows.chainMoreSpec) :=
  OpenClaim.holds_of_wide 8 Tryz.f8 rfl rfl rfl rfl rfl rfl rfl ⟨rfl, rfl, rfl, rfl, rfl⟩ rfl rfl rfl rfl rfl (by kernel_rfl) Tryz.func8 (by kernel_rfl)
    (of_decide_eq_true (by kernel_rfl)) (by unfold Func.isWrapper; first | (rw [if_pos (by decide +kernel)]; kernel_rfl) | (rw [if_neg (by decide +kernel)]; exact ⟨rfl, rfl⟩))
    (fun os started H enc _ => chainMore_lifted os started H enc)

/-- The statement. -/
theorem chainMore_holds : Rows.ChainMoreSaid := chainMore_over

end Go.Proofs.YtkfahochpnggbaaGreat
