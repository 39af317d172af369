/- Rates gone through, line by line. How many spans were set. -/
import Derived.Test.YtlnpflfkkjcopaaRtG
import Derived.Maps.RangeWalk
namespace Go.Proofs.Ytlnpflfkkjcopaa
open Go.RowKit
set_option maxRecDepth 100000

abbrev Ks := List (ByteArray × Int)
/-- rates being gone through: T was met -/
def Rng (w : World) (base R bm n : Nat) (F : Lns) (r : Nat) (T : Ks) (cnt : Nat) : Prop :=
  RtAt w base R bm n F ∧ (∃ (D : DataW Unit) (left : Lit → Bool), w.ranges Try.prog 90 ptrR bm r n D left cnt ∧ RtD D F ∧ (∀ s c, okKey s c → (left (keyL s c) = true ↔ ((F s c).isSome = true ∧ (s, c) ∉ T))) ∧ (∀ kl, left kl = true → Maps.has D kl = true)) ∧
  T.Nodup ∧ ∀ t ∈ T, okKey t.1 t.2 ∧ (F t.1 t.2).isSome = true
theorem iter_of {w : World} {D : DataW Unit} {left : Lit → Bool} {bm r n cnt : Nat} (h : w.ranges Try.prog 90 ptrR bm r n D left cnt) : ∃ a b c d, w.heap[r]? = some (.mapIter a b c d) := by
  obtain ⟨es, clock, since, seen, c0, _, _, _, _, hr, _⟩ := h
  exact ⟨_, _, _, _, hr⟩
/-- nothing but the iterator was turned -/
theorem RtAt.but {w w' : World} {base R bm n r : Nat} {F : Lns} (h : RtAt w base R bm n F) (hg : w.grownBy w' (some r)) {a : Option Nat} {b : Nat} {c : Array Nat} {d : Nat} (hr : w.heap[r]? = some (.mapIter a b c d)) : RtAt w' base R bm n F := by
  obtain ⟨h1, ⟨D, h2, h3⟩, h4, h5, h6, h7, h8⟩ := h
  have hblk : ∀ k, k < w.heap.size → k ≠ r → w'.heap[k]? = w.heap[k]? := fun k hk hne => hg.block k hk (fun e => hne (by injection e))
  have hR : R ≠ r := fun e => by
    rw [e, hr] at h1
    injection h1 with h1
    cases h1
  have hb : bm ≠ r := fun e => by
    obtain ⟨es, clock, hb, _⟩ := h2
    rw [e, hr] at hb
    injection hb with hb
    cases hb
  refine ⟨(hblk R (heapLt h1) hR).trans h1, ⟨D, h2.kept hg (by simpa using hb), h3⟩, fun s c B L e => ⟨?_, (h4 s c B L e).2⟩, h5, h6, h7, Nat.le_trans h8 hg.size⟩
  obtain ⟨A, cc, g0, g1, g2⟩ := (h4 s c B L e).1
  have hB : B ≠ r := fun e => by
    rw [e, hr] at g0
    injection g0 with g0
    cases g0
  refine ⟨A, cc, (hblk B (heapLt g0) hB).trans g0, fun hn => ?_, g2⟩
  obtain ⟨b2, o, ea, hb2, hra⟩ := g1 hn
  have hne : b2 ≠ r := fun e => by
    subst e
    have h3' : 3 ≤ (flat L).length := by
      rw [flat_len]
      have := List.length_pos_iff.2 hn
      omega
    have := hra 0 _ (List.getElem?_eq_getElem (by omega))
    unfold World.cell? at this
    rw [hr] at this
    simp at this
  exact ⟨b2, o, ea, Nat.lt_of_lt_of_le hb2 hg.size, fun j v hv => (World.cell?_of_block (hblk b2 hb2 hne)).trans (hra j v hv)⟩
theorem Rng.on {w w' : World} {base R bm n r cnt : Nat} {F : Lns} {T : Ks} (h : Rng w base R bm n F r T cnt) (hb : Below w.heap.size w w') : Rng w' base R bm n F r T cnt := by
  obtain ⟨h1, ⟨D, left, h2, h3⟩, h4⟩ := h
  exact ⟨h1.on hb, ⟨D, left, h2.kept (row := none) ⟨hb.os, hb.tape, hb.output, hb.size, fun k hk _ => hb.block k hk⟩ (by simp) (by simp), h3⟩, h4⟩
theorem Rng.left {w : World} {base R bm n r cnt : Nat} {F : Lns} {T : Ks} (h : Rng w base R bm n F r T cnt) : w.rangeLeft bm r = cnt := by
  obtain ⟨_, ⟨D, left, h2, _⟩, _⟩ := h
  exact h2.left_eq
theorem below_grown {w w' : World} {r b : Nat} (hg : w.grownBy w' (some r)) (hb : b ≤ r) : Below b w w' ∨ w.heap.size < b := by
  by_cases h : b ≤ w.heap.size
  · exact .inl ⟨hg.os, hg.tape, hg.output, hg.size, fun k hk => hg.block k (by omega) (fun e => by have e2 : k = r := Option.some.inj e; omega)⟩
  · exact .inr (by omega)
section
variable {w : World} {ops : Array Oper} {rest : List Oper} {o : Oper} {a : Act} {Q : Exit → Act → World → Prop}
theorem wpList_range_rt (hg : o.guard = none) (m : Operand) (hop : o.op = Op.range 69 m) {base R bm n : Nat} {F : Lns} (h : RtAt w base R bm n F) (hm : a.eval m = .map (some bm))
    (hK : ∀ w' cnt, Rng w' base R bm n F w.heap.size [] cnt → Below w.heap.size w w' → wpList Try.prog ops Q rest (a.put o.dst (.pointer (some ⟨w.heap.size, 0, none⟩))) w') :
    wpList Try.prog ops Q (o :: rest) a w := by
  have h0 := h
  obtain ⟨_, ⟨D, h2, h3⟩, _⟩ := h
  refine wpList_range_own w hg m 69 hop 90 _ keyR Try.underlying69 ptrR bm n D hm h2 fun w' r1 r2 r3 => ?_
  have hb : Below w.heap.size w w' := ⟨r2.os, r2.tape, r2.output, r2.size, fun k hk => r2.block k hk (by simp)⟩
  refine hK w' _ ⟨h0.on hb, ⟨D, _, r1, h3, fun s c hk => ?_, fun kl h => h⟩, List.nodup_nil, fun t ht => absurd ht (by simp)⟩ hb
  rw [(h3.1 s c hk).2]
  simp
theorem wpList_next_rt (hg : o.guard = none) (it : Operand) (hop : o.op = Op.next it false) {base R bm n r cnt : Nat} {F : Lns} {T : Ks} (h : Rng w base R bm n F r T cnt) (hit : a.eval it = .pointer (some ⟨r, 0, none⟩))
    (hDone : (∀ s c, okKey s c → (F s c).isSome = true → (s, c) ∈ T) → wpList Try.prog ops Q rest (a.put o.dst (.tuple #[.bool false])) w)
    (hMore : ∀ s c B L w' cnt', F s c = some (B, L) → (s, c) ∉ T → okKey s c → Rng w' base R bm n F r ((s, c) :: T) cnt' → cnt' < cnt → w.grownBy w' (some r) → w'.heap.size = w.heap.size →
      (Instr.entry (.pointer (some ⟨r, 0, none⟩))).run Try.prog w' = .ok (.tuple #[keyV s c, .pointer (some ⟨B, 0, none⟩)]) w' → wpList Try.prog ops Q rest (a.put o.dst (.tuple #[.bool true, keyV s c, .pointer (some ⟨B, 0, none⟩)])) w') :
    wpList Try.prog ops Q (o :: rest) a w := by
  obtain ⟨h1, ⟨D, left, h2, h3, h4, h5⟩, h6, h7⟩ := h
  obtain ⟨i0, i1, i2, i3, hir⟩ := iter_of h2
  refine wpList_plain hg fun K' hK' => ?_
  unfold Oper.wp
  rcases h2.next keyR o.type with ⟨h0, hl, hrun⟩ | ⟨key, v, kl, y, w', cnt', hkey, hlk, hv, hat, hrun, hrg, hlt, hgr, hsz, hen⟩
  · simp [execOp, hop, hit, hrun, Result.andThen]
    refine hK' _ _ (hDone fun s c hk hs => ?_)
    by_cases hT : (s, c) ∈ T
    · exact hT
    · have := (h4 s c hk).2 ⟨hs, hT⟩
      rw [hl] at this
      cases this
  · obtain ⟨s, c, hk, rfl⟩ := h3.2 kl (h5 kl hlk)
    obtain rfl : key = keyV s c := keyR.inj hkey (keyOk s c hk.1 hk.2)
    obtain ⟨hs, hT⟩ := (h4 s c hk).1 hlk
    obtain ⟨⟨B, L⟩, hF⟩ := Option.isSome_iff_exists.1 hs
    have e1 := (h3.1 s c hk).1
    rw [hat, hF] at e1
    obtain ⟨y1, ps⟩ := y
    have e1' : y1 = .lit (.int .i64 (B : Int)) := e1
    subst e1'
    have hvB : v = .pointer (some ⟨B, 0, none⟩) := by
      rcases ptrR_inv hv with ⟨e, _⟩ | ⟨B', e, e'⟩
      · exact absurd e (by omega)
      · have : B = B' := by omega
        rw [e', this]
    subst hvB
    simp [execOp, hop, hit, hrun, Result.andThen]
    refine hK' _ _ (hMore s c B L w' cnt' hF hT hk ⟨h1.but hgr hir, ⟨D, _, hrg, h3, fun s' c' hk' => ?_, fun kl' h' => ?_⟩, List.nodup_cons.2 ⟨hT, h6⟩, fun t ht => ?_⟩ hlt hgr hsz hen)
    · by_cases hsc : s' = s ∧ c' = c
      · obtain ⟨rfl, rfl⟩ := hsc
        have := WideAt.sameKey_self (keyR.key (keyOk s' c' hk'.1 hk'.2))
        simp [this]
      · have hne := keyL_ne hk'.1 hk.1 hk'.2 hk.2 hsc
        have hsk : (keyL s' c').sameKey (keyL s c) = false := by
          cases h9 : (keyL s' c').sameKey (keyL s c)
          · rfl
          · exact absurd (WideAt.sameKey_eq h9) hne
        have h10 := h4 s' c' hk'
        simp only [hsk, Bool.not_false, Bool.and_true, h10, List.mem_cons, Prod.mk.injEq, not_or]
        constructor
        · rintro ⟨k1, k2⟩
          exact ⟨k1, hsc, k2⟩
        · rintro ⟨k1, _, k2⟩
          exact ⟨k1, k2⟩
    · rw [Bool.and_eq_true] at h'
      exact h5 kl' h'.1
    · rcases List.mem_cons.1 ht with rfl | ht
      · exact ⟨hk, hs⟩
      · exact h7 t ht
end
end Go.Proofs.Ytlnpflfkkjcopaa

namespace Go.Proofs.Ytlnpflfkkjcopaa
open Go.RowKit
set_option maxRecDepth 100000

def sumT (F : Lns) (T : Ks) : Nat := (T.map fun t => (Ln F t.1 t.2).length).sum
def KsOk (F : Lns) (T : Ks) : Prop := T.Nodup ∧ ∀ t ∈ T, okKey t.1 t.2 ∧ (F t.1 t.2).isSome = true
theorem sumT_cons {F : Lns} {T : Ks} {s : ByteArray} {c : Int} : sumT F ((s, c) :: T) = (Ln F s c).length + sumT F T := by
  unfold sumT
  rw [List.map_cons, List.sum_cons]
theorem Rng.ks {w : World} {base R bm n r cnt : Nat} {F : Lns} {T : Ks} (h : Rng w base R bm n F r T cnt) : KsOk F T := h.2.2
set_option maxHeartbeats 1000000 in
theorem code_rlen {w : World} {base R bm n : Nat} {F : Lns} (h : RtAt w base R bm n F) (hbd : ∀ T, KsOk F T → sumT F T ≤ 1000) : Calls Try.prog 27 #[.pointer (some ⟨R, 0, none⟩)] w fun e w' =>
    ∃ T, KsOk F T ∧ (∀ s c, okKey s c → (F s c).isSome = true → (s, c) ∈ T) ∧ e = .returned (.int .i64 (sumT F T)) ∧ Below w.heap.size w w' := by
  have HMade := Lib.hid (code_rmade h)
  have HH := Lib.hid h
  have HBd := Lib.hid hbd
  have c0 := h.cell
  clear h hbd
  go_enter Try.func27, Try.ntmps27
  go_wp2_with (first
    | (go_at_call 44; refine HMade.out.mono ?_; rintro e w1 ⟨rfl, rfl⟩)
    | (at_range; refine wpList_range_rt rfl _ rfl HH.out rfl ?_; intro w1 cnt1 hrg hb1; have HRg := Lib.hid hrg; have HB1 := Lib.hid hb1; clear hrg hb1))
  go_frame
  clear HMade HH c0
  go_loopw [3] (fun v wr => ∃ (T : Ks) (cnt : Nat), v = .int .i64 (sumT F T) ∧ Hid (Rng wr base R bm n F w.heap.size T cnt) ∧ Hid (Below w.heap.size w wr)) (fun _ wr => wr.rangeLeft bm w.heap.size)
  case atStart => exact ⟨[], cnt1, rfl, HRg, HB1⟩
  case round =>
    clear HRg HB1
    obtain ⟨T, cnt, rfl, HRg, HB⟩ := hrel
    go_wp2_with (first | (at_next; refine wpList_next_rt rfl _ rfl HRg.out rfl ?_ ?_))
    · intro hall
      go_wp2
      go_ret
      exact ⟨T, HRg.out.ks, hall, rfl, HB.out⟩
    · intro s c B L w' cnt' hF hT hk hrg hlt hg hsz hen
      have hks := HBd.out _ hrg.ks
      have hln : Ln F s c = L := by unfold Ln; rw [hF]
      rw [sumT_cons, hln] at hks
      have hb' : Below w.heap.size wr w' := ⟨hg.os, hg.tape, hg.output, hg.size, fun k hk2 => hg.block k (by have := HB.out.size; omega) (fun e => by have e2 : k = w.heap.size := Option.some.inj e; omega)⟩
      have HB' := Lib.hid (HB.out.trans hb')
      have HLe := Lib.hid (code_llen w' B 256 L (hrg.1.2.2.1 s c B L hF).1)
      have HRg' := Lib.hid hrg
      have HM : Hid (w'.rangeLeft bm w.heap.size < wr.rangeLeft bm w.heap.size) := Lib.hid (by rw [hrg.left, HRg.out.left]; exact hlt)
      have HS : Hid (sumT F ((s, c) :: T) = L.length + sumT F T) := Lib.hid (by rw [sumT_cons, hln])
      have i1 : (sumT F T : Int) + (L.length : Int) ≤ 1000 := by omega
      clear hks hln hb' hrg hlt hg hsz hF hT hk
      go_wp2_with (go_at_call 21; refine HLe.out.mono ?_; rintro e w2 ⟨rfl, rfl⟩)
      go_roundw
      case rel => exact ⟨(s, c) :: T, cnt', by have h9 := HS.out; congr 1; omega, HRg', HB'⟩
      case measure => exact HM.out
end Go.Proofs.Ytlnpflfkkjcopaa
