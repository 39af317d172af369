/-
  Whatever rates are set, the rate of any state and category on any day, and what is refused, are the document's; a clone goes its own way. Conditions: none: it holds for every input.
-/
import Derived.Test.YtlnpflfkkjcopaaRtRs
import Derived.Test.YtlnpflfkkjcopaaLawEndB
import Derived.HandedShaped
import Derived.Test.YtlnpflfkkjcopaaVatShape
namespace Go.Proofs.Ytlnpflfkkjcopaa.ratesSets
open Go.ChangeShapes Go.WideShapes Go.ChangeAt Go.RowKit


theorem own : ownKnob Try.prog.godebug = none := by kernel_rfl

set_option maxRecDepth 100000 in
theorem lifted (os : Os) (started : os.Started) (H : Type) (enc : TypeId × Value → H) :
    ReturnsInHanded {} Try.checked os 6 .any (Rows.ratesSetsSpec.pre6 enc Try.prog Try.f6 Rows.ratesSetsRow.domain false) (Rows.ratesSetsSpec.post enc Try.prog Try.f6 false true false false) := by
  refine returnsInHanded_of_change_shaped (C := Try.checked) own started (by kernel_rfl) Try.func6
    (ChangeSpec.witness6 (enc := enc) (C := Try.checked) false ⟨#[], #[.slice none 0 0, .agg #[.string ⟨#[]⟩, .int .i64 0, .int .i64 0]], []⟩ 8 (by kernel_rfl) (by kernel_rfl) (by kernel_rfl) (by kernel_rfl)) ?_
  intro W base args ds gs before hval0 hW hcnd hsz0 hsh _
  have hsz : (DataW.weightsEach Try.prog (Try.f6.params.toList ++ Rows.ratesSetsSpec.plain.varTypes Try.prog) (ds ++ gs)).all (· ≤ reachBytes) = true := hsz0
  have hval : ∀ (j : Nat) t v, Try.f6.params[j]? = some t → args[j]? = some v → Value.okWide Try.prog W .any base t v := hval0
  have hW' := hW
  obtain ⟨p, q, hA0, hV, rfl, hfz, hnd⟩ := hW
  have hA : DataW.TrodAll enc Try.prog W 0 (fun _ => true) true Try.f6.params.toList args.toList ds p := hA0
  have hAk := hA
  rw [Try.params6] at hA hval hsz
  obtain ⟨v0, vs0, d0, ds0, p0, q0, hargs, rfl, _, h0, r0⟩ := trodAll_cons hA
  obtain ⟨v1, vs1, d1, ds1, p1, q1, rfl, rfl, _, h1, r1⟩ := trodAll_cons r0
  obtain ⟨rfl, rfl, _⟩ := trodAll_nil r1
  obtain rfl : args = #[v0, v1] := by cases args; simp_all
  obtain ⟨rfl, rfl⟩ := trodVars_none hV
  obtain ⟨A0, L0, c0, rfl, hR0, hAn0, hlc0, hls0, hd0⟩ := open_rates (hval 0 49 v0 rfl rfl) h0
  have hln0 : L0.length * 48 ≤ 140737488351232 := by
    rcases hd0 with ⟨_, rfl⟩ | ⟨els, spr, hd, he⟩
    · simp
    · have := sized_slice hsz (j := 0) (t := 49) (e := 56) rfl (by rw [hd]; rfl) Try.underlying49
      rw [bytesRate] at this
      have h2 : reachBytes = 140737488351232 := rfl
      rw [h2] at this
      omega
  obtain ⟨s1, c1, d1, rfl, hs1⟩ := open_ask (hval 1 51 v1 rfl rfl) h1
  clear hA0 hval0
  simp only [List.append_nil] at hW'
  have hMx : MaxL W := by
    obtain ⟨m, hm⟩ := Try.laysM144.s1_3 W hsh
    have hb : (0 : Nat) < W.heap.size := block_lt_of_cell hm
    exact ⟨hb, m, hm⟩
  refine (sets_walk A0 c0 L0 s1 c1 d1 _ hR0 (by omega) hMx ⟨hls0, hs1⟩ _ rfl).mono fun e W' ⟨he, hg⟩ => ?_
  subst he
  exact ⟨_, rfl, post_below (pa := p) (pv := []) hW' (fun _ _ _ => trodAll_cons_mk (shut_bool Try.underlying4 _) trodAll_mk0) (fun sp hsp => args_stay hg _ _ _ _ (by kernel_rfl) hAk (fun x hx => hW'.lt x hx) hsp) (fun _ _ => rfl) (by simp)
    hg (ok_one (by kernel_rfl) rfl (okWide_bool_mk Try.underlying4 _))⟩

theorem over : Rows.ratesSetsRow.holds Try.pinned (OpenSpec.ofChange Rows.ratesSetsSpec) :=
  OpenClaim.holds_of_wide 6 Try.f6 rfl rfl rfl rfl rfl rfl rfl ⟨rfl, rfl, rfl, rfl, rfl⟩ rfl rfl rfl rfl rfl (by kernel_rfl) Try.func6 (by kernel_rfl)
    (of_decide_eq_true (by kernel_rfl)) (by unfold Func.isWrapper; first | (rw [if_pos (by decide +kernel)]; kernel_rfl) | (rw [if_neg (by decide +kernel)]; exact ⟨rfl, rfl⟩))
    (fun os started H enc _ => lifted os started H enc)

/-- THE STATEMENT -/
theorem proved : Rows.RatesSetsSaid := over
end Go.Proofs.Ytlnpflfkkjcopaa.ratesSets
