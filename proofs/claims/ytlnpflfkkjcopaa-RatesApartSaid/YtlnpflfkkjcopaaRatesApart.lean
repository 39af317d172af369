/-
  What is set of one state and category changes no other one's. Conditions: none: it holds for every input.
-/
import Derived.Test.YtlnpflfkkjcopaaRtP
import Derived.Test.YtlnpflfkkjcopaaLawEndB
import Derived.HandedShaped
import Derived.Test.YtlnpflfkkjcopaaVatShape
namespace Go.Proofs.Ytlnpflfkkjcopaa.ratesApart
open Go.ChangeShapes Go.WideShapes Go.ChangeAt Go.RowKit


theorem own : ownKnob Try.prog.godebug = none := by kernel_rfl

set_option maxRecDepth 100000 in
theorem lifted (os : Os) (started : os.Started) (H : Type) (enc : TypeId × Value → H) :
    ReturnsInHanded {} Try.checked os 7 .any (Rows.ratesApartSpec.pre6 enc Try.prog Try.f7 Rows.ratesApartRow.domain false) (Rows.ratesApartSpec.post enc Try.prog Try.f7 false true false false) := by
  refine returnsInHanded_of_change_shaped (C := Try.checked) own started (by kernel_rfl) Try.func7
    (ChangeSpec.witness6 (enc := enc) (C := Try.checked) false ⟨#[], #[.slice none 0 0, .agg #[.string ⟨#[]⟩, .int .i64 0, .int .i64 0, .int .i64 0, .int .i64 0], .agg #[.string ⟨#[]⟩, .int .i64 0, .int .i64 0]], []⟩ 8 (by kernel_rfl) (by kernel_rfl) (by kernel_rfl) (by kernel_rfl)) ?_
  intro W base args ds gs before hval0 hW hcnd hsz0 hsh _
  have hsz : (DataW.weightsEach Try.prog (Try.f7.params.toList ++ Rows.ratesApartSpec.plain.varTypes Try.prog) (ds ++ gs)).all (· ≤ reachBytes) = true := hsz0
  have hval : ∀ (j : Nat) t v, Try.f7.params[j]? = some t → args[j]? = some v → Value.okWide Try.prog W .any base t v := hval0
  have hW' := hW
  obtain ⟨p, q, hA0, hV, rfl, hfz, hnd⟩ := hW
  have hA : DataW.TrodAll enc Try.prog W 0 (fun _ => true) true Try.f7.params.toList args.toList ds p := hA0
  have hAk := hA
  rw [Try.params7] at hA hval hsz
  obtain ⟨v0, vs0, d0, ds0, p0, q0, hargs, rfl, _, h0, r0⟩ := trodAll_cons hA
  obtain ⟨v1, vs1, d1, ds1, p1, q1, rfl, rfl, _, h1, r1⟩ := trodAll_cons r0
  obtain ⟨v2, vs2, d2, ds2, p2, q2, rfl, rfl, _, h2, r2⟩ := trodAll_cons r1
  obtain ⟨rfl, rfl, _⟩ := trodAll_nil r2
  obtain rfl : args = #[v0, v1, v2] := by cases args; simp_all
  obtain ⟨rfl, rfl⟩ := trodVars_none hV
  obtain ⟨A0, L0, c0, rfl, hR0, hAn0, hlc0, hls0, hd0⟩ := open_rates (hval 0 49 v0 rfl rfl) h0
  have hln0 : L0.length * 48 ≤ 140737488351232 := by
    rcases hd0 with ⟨_, rfl⟩ | ⟨els, spr, hd, he⟩
    · simp
    · have := sized_slice hsz (j := 0) (t := 49) (e := 56) rfl (by rw [hd]; rfl) Try.underlying49
      rw [bytesRate] at this
      have h2 : reachBytes = 140737488351232 := rfl
      rw [h2] at this
      omega
  obtain ⟨x1, rfl, hs1⟩ := open_rate (hval 1 56 v1 rfl rfl) h1
  obtain ⟨s2, c2, d2, rfl, hs2⟩ := open_ask (hval 2 51 v2 rfl rfl) h2
  clear hA0 hval0
  simp only [List.append_nil] at hW'
  have hMx : MaxL W := by
    obtain ⟨m, hm⟩ := Try.laysM144.s1_3 W hsh
    have hb : (0 : Nat) < W.heap.size := block_lt_of_cell hm
    exact ⟨hb, m, hm⟩
  refine (ratesApart_any A0 c0 L0 x1 s2 c2 d2 _ hR0 (fun h => (hAn0 h).1) hlc0 hln0 hMx ⟨hls0, hs1, hs2⟩).mono fun e W' ⟨he, hg⟩ => ?_
  subst he
  exact ⟨_, rfl, post_below (pa := p) (pv := []) hW' (fun _ _ _ => trodAll_cons_mk (shut_bool Try.underlying4 _) trodAll_mk0) (fun sp hsp => args_stay hg _ _ _ _ (by kernel_rfl) hAk (fun x hx => hW'.lt x hx) hsp) (fun _ _ => rfl) (by simp)
    hg (ok_one (by kernel_rfl) rfl (okWide_bool_mk Try.underlying4 _))⟩

theorem over : Rows.ratesApartRow.holds Try.pinned (OpenSpec.ofChange Rows.ratesApartSpec) :=
  OpenClaim.holds_of_wide 7 Try.f7 rfl rfl rfl rfl rfl rfl rfl ⟨rfl, rfl, rfl, rfl, rfl⟩ rfl rfl rfl rfl rfl (by kernel_rfl) Try.func7 (by kernel_rfl)
    (of_decide_eq_true (by kernel_rfl)) (by unfold Func.isWrapper; first | (rw [if_pos (by decide +kernel)]; kernel_rfl) | (rw [if_neg (by decide +kernel)]; exact ⟨rfl, rfl⟩))
    (fun os started H enc _ => lifted os started H enc)

/-- THE STATEMENT -/
theorem proved : Rows.RatesApartSaid := over
end Go.Proofs.Ytlnpflfkkjcopaa.ratesApart
