/- JournalCrash: wherever power goes, whatever is torn, also while the journal is opened again and again: opened at last it has all batches that were acknowledged, in order, and perhaps the one on its way, whole; opened once more nothing is written. Conditions: none: it holds for every input. -/
import Derived.Test.YtfjejiapafdgeaaJ48
import Derived.Test.YtfjejiapafdgeaaJ5
import Derived.SizedLaws
namespace Go.Proofs.Ytfjejiapafdgeaa.journalCrash
open Go.ChangeShapes Go.WideShapes Go.ChangeAt Go.RowKit


theorem own : ownKnob Try.prog.godebug = none := by kernel_rfl

set_option maxRecDepth 100000 in
theorem lifted (os : Os) (started : os.Started) (H : Type) (enc : TypeId × Value → H) :
    ReturnsInHanded {} Try.checked os 8 .any (Rows.journalCrashSpec.pre6 enc Try.prog Try.f8 Rows.journalCrashRow.domain false) (Rows.journalCrashSpec.post enc Try.prog Try.f8 false true false false) := by
  refine returnsInHanded_of_change_sized (C := Try.checked) own started (by kernel_rfl) Try.func8
    (ChangeSpec.witness6 (enc := enc) (C := Try.checked) false ⟨#[], #[.int .i64 0, .slice none 0 0, .agg #[.int .i64 0, .int .i64 0], .slice none 0 0], []⟩ 8 (by kernel_rfl) (by kernel_rfl) (by kernel_rfl) (by kernel_rfl)) ?_
  intro W base args ds gs before hval0 hW hcnd hsz0 _
  have hsz : (DataW.weightsEach Try.prog (Try.f8.params.toList ++ Rows.journalCrashSpec.plain.varTypes Try.prog) (ds ++ gs)).all (· ≤ reachBytes) = true := hsz0
  have hval : ∀ (j : Nat) t v, Try.f8.params[j]? = some t → args[j]? = some v → Value.okWide Try.prog W .any base t v := hval0
  have hW' := hW
  obtain ⟨p, q, hA0, hV, rfl, hfz, hnd⟩ := hW
  have hA : DataW.TrodAll enc Try.prog W 0 (fun _ => true) true Try.f8.params.toList args.toList ds p := hA0
  have hAk := hA
  rw [Try.params8] at hA hval hsz
  obtain ⟨v0, vs0, d0, ds0, p0, q0, hargs, rfl, _, h0, r0⟩ := trodAll_cons hA
  obtain ⟨v1, vs1, d1, ds1, p1, q1, rfl, rfl, _, h1, r1⟩ := trodAll_cons r0
  obtain ⟨v2, vs2, d2, ds2, p2, q2, rfl, rfl, _, h2, r2⟩ := trodAll_cons r1
  obtain ⟨v3, vs3, d3, ds3, p3, q3, rfl, rfl, _, h3, r3⟩ := trodAll_cons r2
  obtain ⟨rfl, rfl, _⟩ := trodAll_nil r3
  obtain rfl : args = #[v0, v1, v2, v3] := by cases args; simp_all
  obtain ⟨rfl, rfl⟩ := trodVars_none hV
  obtain ⟨a0, rfl, _, _, w0⟩ := open_int Try.underlying3 (hval 0 3 v0 rfl rfl) h0
  obtain ⟨A1, L1, c1, rfl, hR1⟩ := open_bats (hval 1 31 v1 rfl rfl) h1
  obtain ⟨x2, rfl, hs2⟩ := openCutV (hval 2 78 v2 rfl rfl) h2
  obtain ⟨A3, L3, c3, rfl, hR3, hAn3, hlc3, hls3, hd3⟩ := openCutVs (hval 3 79 v3 rfl rfl) h3
  have hln3 : L3.length * 16 ≤ 140737488351232 := by
    rcases hd3 with ⟨_, rfl⟩ | ⟨els, spr, hd, he⟩
    · simp
    · have := sized_slice hsz (j := 3) (t := 79) (e := 78) rfl (by rw [hd]; rfl) Try.underlying79
      rw [bytesOfCutV] at this
      have h2 : reachBytes = 140737488351232 := rfl
      rw [h2] at this
      omega
  clear hA0 hval0
  simp only [List.append_nil] at hW'
  refine (journalCrash_any a0 L1 A1 c1 x2 L3 A3 c3 W hR1.2 hR1.1 hs2 hR3 hls3).mono fun e W' ⟨he, hg⟩ => ?_
  subst he
  exact ⟨_, rfl, post_below (pa := p) (pv := []) hW' (fun _ _ _ => trodAll_cons_mk (shut_bool Try.underlying4 _) trodAll_mk0) (fun sp hsp => args_stay hg _ _ _ _ (by kernel_rfl) hAk (fun x hx => hW'.lt x hx) hsp) (fun _ _ => rfl) (by simp)
    hg (ok_one (by kernel_rfl) rfl (okWide_bool_mk Try.underlying4 _))⟩

theorem over : Rows.journalCrashRow.holds Try.pinned (OpenSpec.ofChange Rows.journalCrashSpec) :=
  OpenClaim.holds_of_wide 8 Try.f8 rfl rfl rfl rfl rfl rfl rfl ⟨rfl, rfl, rfl, rfl, rfl⟩ rfl rfl rfl rfl rfl (by kernel_rfl) Try.func8 (by kernel_rfl)
    (of_decide_eq_true (by kernel_rfl)) (by unfold Func.isWrapper; first | (rw [if_pos (by decide +kernel)]; kernel_rfl) | (rw [if_neg (by decide +kernel)]; exact ⟨rfl, rfl⟩))
    (fun os started H enc _ => lifted os started H enc)

/-- THE STATEMENT -/
theorem proved : Rows.JournalCrashSaid := over
end Go.Proofs.Ytfjejiapafdgeaa.journalCrash
