/-
  Where a line is supplied is the home state, or a country that the line or its document names; of goods, and of what hangs on a place, the other party says nothing but whether it is a taxable person. Conditions: none: it holds for every input.
-/
import Derived.Test.YtdpafndejobbjaaPlQ
import Derived.Test.YtdpafndejobbjaaFitOf
import Derived.Test.YtdpafndejobbjaaCaseA
import Derived.Test.YtdpafndejobbjaaLawEndB
import Derived.HandedShaped
import Derived.Test.YtdpafndejobbjaaVatShape
namespace Go.Proofs.Ytdpafndejobbjaa.placeNamed
open Go.ChangeShapes Go.WideShapes Go.ChangeAt Go.RowKit
open Go.ChangeMaps (open_string shut_string)

theorem own : ownKnob Try.prog.godebug = none := by kernel_rfl

set_option maxRecDepth 100000 in
theorem lifted (os : Os) (started : os.Started) (H : Type) (enc : TypeId × Value → H) :
    ReturnsInHanded {} Try.checked os 5 .any (Rows.placeNamedSpec.pre6 enc Try.prog Try.f5 Rows.placeNamedRow.domain false) (Rows.placeNamedSpec.post enc Try.prog Try.f5 false true false false) := by
  refine returnsInHanded_of_change_shaped (C := Try.checked) own started (by kernel_rfl) Try.func5
    (ChangeSpec.witness6 (enc := enc) (C := Try.checked) false ⟨#[], #[.string ⟨#[]⟩, .agg #[.string ⟨#[]⟩, .bool false, .bool false, .string ⟨#[]⟩, .int .i64 0, .string ⟨#[]⟩, .string ⟨#[]⟩, .string ⟨#[]⟩, .slice none 0 0], .agg #[.int .i64 0, .int .i64 0, .string ⟨#[]⟩, .string ⟨#[]⟩, .string ⟨#[]⟩, .int .i64 0, .bool false, .int .i64 0, .bool false], .agg #[.bool false, .int .i64 0, .bool false, .int .i64 0, .int .i64 0, .int .i64 0, .int .i64 0, .bool false, .bool false], .string ⟨#[]⟩], []⟩ 8 (by kernel_rfl) (by kernel_rfl) (by kernel_rfl) (by kernel_rfl)) ?_
  intro W base args ds gs before hval0 hW hcnd hsz0 hsh _
  have hsz : (DataW.weightsEach Try.prog (Try.f5.params.toList ++ Rows.placeNamedSpec.plain.varTypes Try.prog) (ds ++ gs)).all (· ≤ reachBytes) = true := hsz0
  have hval : ∀ (j : Nat) t v, Try.f5.params[j]? = some t → args[j]? = some v → Value.okWide Try.prog W .any base t v := hval0
  have hW' := hW
  obtain ⟨p, q, hA0, hV, rfl, hfz, hnd⟩ := hW
  have hA : DataW.TrodAll enc Try.prog W 0 (fun _ => true) true Try.f5.params.toList args.toList ds p := hA0
  have hAk := hA
  rw [Try.params5] at hA hval hsz
  obtain ⟨v0, vs0, d0, ds0, p0, q0, hargs, rfl, _, h0, r0⟩ := trodAll_cons hA
  obtain ⟨v1, vs1, d1, ds1, p1, q1, rfl, rfl, _, h1, r1⟩ := trodAll_cons r0
  obtain ⟨v2, vs2, d2, ds2, p2, q2, rfl, rfl, _, h2, r2⟩ := trodAll_cons r1
  obtain ⟨v3, vs3, d3, ds3, p3, q3, rfl, rfl, _, h3, r3⟩ := trodAll_cons r2
  obtain ⟨v4, vs4, d4, ds4, p4, q4, rfl, rfl, _, h4, r4⟩ := trodAll_cons r3
  obtain ⟨rfl, rfl, _⟩ := trodAll_nil r4
  obtain rfl : args = #[v0, v1, v2, v3, v4] := by cases args; simp_all
  obtain ⟨rfl, rfl⟩ := trodVars_none hV
  obtain ⟨s0, rfl, hd0, _, _⟩ := open_string Try.underlying9 (hval 0 9 v0 rfl rfl) h0
  have hl0 : s0.size ≤ 140737488351232 := by
    have := sized_string hsz (j := 0) rfl (by rw [hd0]; rfl)
    have h2 : reachBytes = 140737488351232 := rfl
    rw [h2] at this
    simpa using this
  obtain ⟨x1, rfl, hs1⟩ := openDocV (hval 1 26 v1 rfl rfl) h1 (fits_of hsz (j := 1) rfl rfl)
  obtain ⟨x2, rfl, hs2⟩ := openLineV (hval 2 34 v2 rfl rfl) h2 (fits_of hsz (j := 2) rfl rfl)
  obtain ⟨x3, rfl, hs3⟩ := openCaseV (hval 3 37 v3 rfl rfl) h3 (fits_of hsz (j := 3) rfl rfl)
  obtain ⟨s4, rfl, hd4, _, _⟩ := open_string Try.underlying9 (hval 4 9 v4 rfl rfl) h4
  have hl4 : s4.size ≤ 140737488351232 := by
    have := sized_string hsz (j := 4) rfl (by rw [hd4]; rfl)
    have h2 : reachBytes = 140737488351232 := rfl
    rw [h2] at this
    simpa using this
  clear hA0 hval0
  simp only [List.append_nil] at hW'
  have hMx : MaxL W := by
    obtain ⟨m, hm⟩ := Try.laysM144.s1_3 W hsh
    have hb : (0 : Nat) < W.heap.size := block_lt_of_cell hm
    exact ⟨hb, m, hm⟩
  refine (placeNamed_any s0 x1 x2.1 x2.2.1 x2.2.2.1 x2.2.2.2.1 x2.2.2.2.2.1 x2.2.2.2.2.2.1 x2.2.2.2.2.2.2.1 x2.2.2.2.2.2.2.2.1 x2.2.2.2.2.2.2.2.2 x3.sale x3.supply x3.exempt x3.start x3.goal x3.party x3.place x3.business x3.over s4 _ hMx hs1 hl0 hs2.1 hs2.2.1 hs2.2.2 hl4).mono fun e W' ⟨he, hg⟩ => ?_
  subst he
  exact ⟨_, rfl, post_below (pa := p) (pv := []) hW' (fun _ _ _ => trodAll_cons_mk (shut_bool Try.underlying4 _) trodAll_mk0) (fun sp hsp => args_stay hg _ _ _ _ (by kernel_rfl) hAk (fun x hx => hW'.lt x hx) hsp) (fun _ _ => rfl) (by simp)
    hg (ok_one (by kernel_rfl) rfl (okWide_bool_mk Try.underlying4 _))⟩

theorem over : Rows.placeNamedRow.holds Try.pinned (OpenSpec.ofChange Rows.placeNamedSpec) :=
  OpenClaim.holds_of_wide 5 Try.f5 rfl rfl rfl rfl rfl rfl rfl ⟨rfl, rfl, rfl, rfl, rfl⟩ rfl rfl rfl rfl rfl (by kernel_rfl) Try.func5 (by kernel_rfl)
    (of_decide_eq_true (by kernel_rfl)) (by unfold Func.isWrapper; first | (rw [if_pos (by decide +kernel)]; kernel_rfl) | (rw [if_neg (by decide +kernel)]; exact ⟨rfl, rfl⟩))
    (fun os started H enc _ => lifted os started H enc)

/-- THE STATEMENT -/
theorem proved : Rows.PlaceNamedSaid := over
end Go.Proofs.Ytdpafndejobbjaa.placeNamed
