/- Documents that are there: the document's own find and credits; the program's credits. -/
import Derived.Test.YtjanhgekocpobaaIdQ
import Derived.Test.YtjanhgekocpobaaVatSame
namespace Go.Proofs.Ytjanhgekocpobaa
open Go.RowKit
set_option maxRecDepth 100000
set_option linter.unusedSimpArgs false
set_option linter.unusedVariables false
attribute [local go_sem] Oper.semAt_some

def isD (s : ByteArray) (d : DocV) : Bool := decide (d.id = s)
def findI (W : List DocV) (s : ByteArray) : Int := if W.findIdx (isD s) < W.length then (W.findIdx (isD s) : Nat) else -1
theorem find_at {W : List DocV} {s : ByteArray} {k : Nat} (hk : k < W.length) (h : k ≤ W.findIdx (isD s)) (hs : W[k].id = s) : findI W s = (k : Nat) := by
  have : W.findIdx (isD s) = k := by
    rcases Nat.lt_or_ge k (W.findIdx (isD s)) with h1 | h1
    · have := List.not_of_lt_findIdx h1
      simp [isD, hs] at this
    · omega
  unfold findI
  rw [this, if_pos hk]
theorem find_next {W : List DocV} {s : ByteArray} {k : Nat} (hk : k < W.length) (h : k ≤ W.findIdx (isD s)) (hs : ¬ W[k].id = s) : k + 1 ≤ W.findIdx (isD s) := by
  rcases Nat.lt_or_ge k (W.findIdx (isD s)) with h1 | h1
  · exact h1
  · have e : W.findIdx (isD s) = k := by omega
    have := List.findIdx_getElem (p := isD s) (w := by rw [e]; exact hk)
    simp [isD, e] at this
    exact absurd this hs
theorem find_none {W : List DocV} {s : ByteArray} (h : W.length ≤ W.findIdx (isD s)) : findI W s = -1 := by
  unfold findI
  rw [if_neg (by omega)]
set_option maxHeartbeats 1000000 in
theorem ref_find (W : List DocV) (A : Option Addr) (c : Nat) (s : ByteArray) (w : World) (hr : RowD w A W) (hl : W.length ≤ 1000) (V : Int) (hV : findI W s = V) : Calls Try.prog 13 #[.slice A W.length c, .string s] w fun e w' => e = .returned (.int .i64 V) ∧ w = w' := by
  have HR := Lib.hid hr
  have HV := Lib.hid hV
  have hl' : (W.length : Int) ≤ 1000 := by omega
  clear hr hV
  go_enter Try.func13, Try.ntmps13
  go_wp2
  go_loop [5] (fun i => ∃ k : Nat, k ≤ W.length ∧ i = .int .i64 (k : Nat) ∧ Hid (k ≤ W.findIdx (isD s))) (fun i => W.length - (intOf i).toNat)
  case atStart => exact ⟨0, Nat.zero_le _, rfl, Lib.hid (Nat.zero_le _)⟩
  case round =>
    obtain ⟨k, hk, rfl, HF⟩ := hrel
    by_cases hlt : k < W.length
    · have hlt' : (k : Int) < (W.length : Int) := by omega
      obtain ⟨b, o, rfl, hbl, y0, y1, y2, y3, y4, y5, y6, y7, y8⟩ := HR.out.at_ k hlt
      clear y1 y2 y3 y4 y5 y6 y7 y8 hbl
      by_cases hq : W[k].id = s
      · have hb1 : (W[k].id.toList == s.toList) = true := by rw [str_beq]; simpa using hq
        have HK := Lib.hid (find_at hlt HF.out hq)
        clear hq
        go_wp2
        go_ret
        exact ⟨by rw [← HV.out, HK.out]; rfl, rfl⟩
      · have hb1 : (W[k].id.toList == s.toList) = false := by rw [str_beq]; simpa using hq
        have HK := Lib.hid (find_next hlt HF.out hq)
        clear hq
        go_wp2
        go_round
        case rel => exact ⟨k + 1, by omega, by go_num, HK⟩
        case measure => simp [intOf]; omega
    · obtain rfl : k = W.length := by omega
      have HK := Lib.hid (find_none HF.out)
      clear hlt hk
      go_wp2
      go_ret
      exact ⟨by rw [← HV.out, HK.out]; rfl, rfl⟩
def isCr (s : ByteArray) (d : DocV) : Bool := d.credit && decide (d.refers = s)
def crsOf (W : List DocV) (s : ByteArray) : List ByteArray := (W.filter (isCr s)).map (·.id)
theorem crs_yes {W : List DocV} {s : ByteArray} {k : Nat} (hk : k < W.length) (h : isCr s W[k] = true) : crsOf (W.take (k + 1)) s = crsOf (W.take k) s ++ [W[k].id] := by
  unfold crsOf
  rw [List.take_succ_eq_append_getElem hk, List.filter_append, List.map_append]
  simp [List.filter_cons, h]
theorem crs_no {W : List DocV} {s : ByteArray} {k : Nat} (hk : k < W.length) (h : isCr s W[k] = false) : crsOf (W.take (k + 1)) s = crsOf (W.take k) s := by
  unfold crsOf
  rw [List.take_succ_eq_append_getElem hk, List.filter_append, List.map_append]
  simp [List.filter_cons, h]
theorem crs_len (W : List DocV) (s : ByteArray) : (crsOf W s).length ≤ W.length := by
  unfold crsOf
  rw [List.length_map]
  exact List.length_filter_le _ _
theorem OwnS.on {w W : World} {B : Nat} {v : Value} {L : List ByteArray} (h : OwnS w B v L) (hb : Below w.heap.size w W) : OwnS W B v L :=
  h.grown (row := none) ⟨hb.os, hb.tape, hb.output, hb.size, fun k hk _ => hb.block k hk⟩ (by
    rcases h.2 with ⟨rfl, _⟩ | ⟨g, c, cur, rfl, _⟩
    · exact .inl rfl
    · exact .inr (by simp [Value.ownBlock]))
theorem wpList_append_name {w : World} {ops : Array Oper} {rest : List Oper} {o : Oper} {a : Act} {Q : Exit → Act → World → Prop} (hgd : o.guard = none) (s x : Operand)
    (ho : o.op = .call { callee := .builtin .append, args := #[s, x], argTypes := #[33, 33] }) (base : Nat) (v : Value) (L : List ByteArray) (str : ByteArray) (hs : a.eval s = v) (hown : OwnS w base v L) (gS : Nat)
    (hx : a.eval x = .slice (some ⟨gS, 0, none⟩) 1 1) (hg : w.heap[gS]? = some (.cells #[.string str] 9 (0, 0))) (hL : L.length ≤ 1000) (hb : base ≤ w.heap.size)
    (h : ∀ v' w', OwnS w' base v' (L ++ [str]) → w.grownBy w' v.ownBlock → (v'.ownBlock = v.ownBlock ∨ v'.ownBlock = some w.heap.size) → wpList Try.prog ops Q rest (a.put o.dst v') w') : wpList Try.prog ops Q (o :: rest) a w :=
  wpList_plain hgd fun K hK => wp_append_name s x ho base v L str hs hown gS hx hg hL hb fun v' w' h1 h2 h3 => hK _ _ (h v' w' h1 h2 h3)
def CrP (w : World) (L : List ByteArray) (e : Ending) (w' : World) : Prop := ∃ v, e = .returned v ∧ OwnS w' w.heap.size v L ∧ Below w.heap.size w w'
set_option maxHeartbeats 2000000 in
theorem ref_credits (W : List DocV) (A : Option Addr) (c : Nat) (s : ByteArray) (w : World) (hr : RowD w A W) (hl : W.length ≤ 1000) : Calls Try.prog 17 #[.slice A W.length c, .string s] w (CrP w (crsOf W s)) := by
  have HR := Lib.hid hr
  have hl' : (W.length : Int) ≤ 1000 := by omega
  have HL := Lib.hid hl
  clear hr hl
  go_enter Try.func17, Try.ntmps17
  go_wp2
  go_loopw [5, 6] (fun v i wr => ∃ k : Nat, k ≤ W.length ∧ i = .int .i64 (k : Nat) ∧ Hid (OwnS wr w.heap.size v (crsOf (W.take k) s) ∧ Below w.heap.size w wr)) (fun _ i _ => W.length - (intOf i).toNat)
  case atStart => exact ⟨0, Nat.zero_le _, rfl, Lib.hid ⟨⟨rfl, .inl ⟨rfl, rfl⟩⟩, Below.refl _ _⟩⟩
  case round =>
    obtain ⟨k, hk, rfl, HO⟩ := hrel
    by_cases hlt : k < W.length
    · have hlt' : (k : Int) < (W.length : Int) := by omega
      obtain ⟨b, o, rfl, hbl, y0, y1, y2, y3, y4, y5, y6, y7, y8⟩ := (HR.out.on HO.out.2).at_ k hlt
      clear y1 y4 y5 y6 y7 y8 hbl
      by_cases hcr : W[k].credit = true
      · rw [hcr] at y2
        by_cases hq : W[k].refers = s
        · have hb1 : (W[k].refers.toList == s.toList) = true := by rw [str_beq]; simpa using hq
          have HK := Lib.hid (crs_yes hlt (s := s) (by unfold isCr; rw [hcr, hq]; simp))
          have HLk : Hid ((crsOf (W.take k) s).length ≤ 1000) := Lib.hid (by have h1 := crs_len (W.take k) s; have h2 := HL.out; rw [List.length_take] at h1; omega)
          generalize W[k].id = nm at y0 HK
          have HN := Lib.hid (heap_alloc_new wr (.cells #[.string nm] 9))
          have HBn := Lib.hid (below_alloc wr (.cells #[.string nm] 9))
          have HOn := Lib.hid (HO.out.1.on HBn.out)
          clear hq hcr
          go_wp2_with (at_builtin; refine Stop.out ?_)
          unfold Stop
          refine wpList_append_name rfl (.tmp 27) (.tmp 33) rfl w.heap.size _ (crsOf (W.take k) s) nm rfl HOn.out wr.heap.size rfl HN.out HLk.out (below_then HO.out.2 HBn.out).size ?_
          intro v1 q3 ho hg hat
          have HV1 : Hid (OwnS q3 w.heap.size v1 (crsOf (W.take k) s ++ [nm]) ∧ Below w.heap.size w q3) := Lib.hid ⟨ho, (below_then HO.out.2 HBn.out).grown hg (below_then HO.out.2 HBn.out).size (fun k0 hk0 => (HOn.out.block hk0).1)⟩
          clear ho hg hat
          go_wp2
          go_roundw
          case rel => exact ⟨k + 1, by omega, by go_num, Lib.hid ⟨by rw [HK.out]; exact HV1.out.1, HV1.out.2⟩⟩
          case measure => simp [intOf]; omega
        · have hb1 : (W[k].refers.toList == s.toList) = false := by rw [str_beq]; simpa using hq
          have HK := Lib.hid (crs_no hlt (s := s) (by unfold isCr; rw [hcr]; simpa using hq))
          clear hq hcr
          go_wp2
          go_roundw
          case rel => exact ⟨k + 1, by omega, by go_num, Lib.hid ⟨by rw [HK.out]; exact HO.out.1, HO.out.2⟩⟩
          case measure => simp [intOf]; omega
      · have hcf : W[k].credit = false := by simpa using hcr
        rw [hcf] at y2
        have HK := Lib.hid (crs_no hlt (s := s) (by unfold isCr; rw [hcf]; rfl))
        clear hcr hcf
        go_wp2
        go_roundw
        case rel => exact ⟨k + 1, by omega, by go_num, Lib.hid ⟨by rw [HK.out]; exact HO.out.1, HO.out.2⟩⟩
        case measure => simp [intOf]; omega
    · obtain rfl : k = W.length := by omega
      have HF : Hid (OwnS wr w.heap.size u5 (crsOf W s) ∧ Below w.heap.size w wr) := Lib.hid (by have := HO.out; rwa [List.take_length] at this)
      clear hlt hk HO
      go_wp2
      go_ret
      unfold CrP
      exact ⟨u5, rfl, HF.out⟩
/-- a row of names of the call's own, copied -/
theorem OwnS.form {w : World} {B : Nat} {v : Value} {L : List ByteArray} (h : OwnS w B v L) : (v = .slice none 0 0 ∧ L = []) ∨ ∃ g c cur, v = .slice (some ⟨g, 0, none⟩) L.length c ∧ B ≤ g ∧ w.heap[g]? = some (.cells cur 9 (0, 0)) ∧ ∀ i (hi : i < L.length), w.cell? ⟨g, i, none⟩ = some (.string L[i]) := by
  rcases h.2 with ⟨rfl, h0⟩ | ⟨g, c, cur, rfl, hB, hh, hc, hm, hcs, ht⟩
  · exact .inl ⟨rfl, List.eq_nil_of_length_eq_zero h0⟩
  · refine .inr ⟨g, c, cur, rfl, hB, hh, fun i hi => ?_⟩
    have := World.ownsRow.cells (g := g) h rfl i (.string L[i]) (by rw [List.getElem?_map, List.getElem?_eq_getElem hi]; rfl)
    rw [Addr.add_mid] at this
    simpa using this
theorem OwnS.strs {w : World} {B : Nat} {v : Value} {L : List ByteArray} (h : OwnS w B v L) (hs : ∀ s ∈ L, s.size ≤ 1000) : ∃ A c, v = .slice A L.length c ∧ Strs w A L := by
  rcases h.form with ⟨rfl, rfl⟩ | ⟨g, c, cur, rfl, _, hh, hc⟩
  · exact ⟨none, 0, rfl, fun i hi => by simp at hi⟩
  · exact ⟨some ⟨g, 0, none⟩, c, rfl, fun i hi => ⟨_, rfl, heapLt hh, by rw [Addr.add_mid]; simpa using hc i hi, hs _ (List.getElem_mem hi)⟩⟩
set_option maxHeartbeats 1000000 in
theorem code_cloneS (B : Nat) (v : Value) (L : List ByteArray) (w : World) (ho : OwnS w B v L) (hl : L.length ≤ 1000) : Calls Try.prog 28 #[v] w (CrP w L) := by
  obtain ⟨i0, hi, hz0, hz1, hz2⟩ := info_parts nameFact
  have hq : ∀ (w : World) (a : Option Addr) (n c n' c' : Nat), (binOp .eql 33 (.slice a n c) (.slice none n' c')).run Try.prog w = .ok (.bool a.isNone) w := fun w a n c n' c' => Lib.run_eql_slice_nil w _ _ a n c n' c' Try.underlying33
  rcases ho.form with ⟨rfl, rfl⟩ | ⟨g, c, cur, rfl, _, hh, hc⟩
  · clear ho hl
    go_enter Try.func28, Try.ntmps28
    go_wp2
    go_ret
    unfold CrP
    exact ⟨_, rfl, World.ownsRow_nil _ _ _ _, Below.refl _ _⟩
  · have HN : Hid (∀ X, ∀ j u, (L.map Value.string)[j]? = some u → (w.alloc X).cell? ((⟨g, 0, none⟩ : Addr).add j) = some u) := Lib.hid (fun X j u hu => by
      rw [List.getElem?_map] at hu
      cases e : L[j]? with
      | none => rw [e] at hu; cases hu
      | some s =>
        rw [e] at hu
        injection hu with hu
        obtain ⟨hj, e2⟩ := List.getElem?_eq_some_iff.1 e
        rw [Addr.add_mid]
        have := cell_on (below_alloc w X) (hc j hj)
        rw [e2, hu] at this
        simpa using this)
    have HO := Lib.hid (World.ownsRow_lit w (e := 9) (base := w.heap.size) (size := 1) #[] 0 (Nat.le_refl _) (by unfold maxLen; omega) rfl)
    have HL := Lib.hid hl
    have H1 : Hid (∀ u ∈ L.map Value.string, u.oneCell' = true) := Lib.hid (fun u hu => by
      obtain ⟨s, _, rfl⟩ := List.mem_map.1 hu
      rfl)
    clear ho hl hh hc
    go_enter Try.func28, Try.ntmps28
    go_wp2_with (at_builtin; refine wpList_append_own _ rfl _ _ 33 rfl w.heap.size 9 i0 _ 1 16 Try.underlying33 hi hz0 hz1 hz2 rfl (by decide) _ 0 [] rfl ?own ⟨g, 0, none⟩ L.length c (L.map .string) rfl (by rw [List.length_map]; omega) (HN.out _) H1.out (by have := HL.out; unfold maxLen; omega) (by have := HL.out; omega) (by simp) ?_; (case own => exact HO.out); intro v' w' hown hg hv; have HV : Hid (OwnS w' w.heap.size v' L ∧ Below w.heap.size w w') := (Lib.hid ⟨by simpa [OwnS] using hown, (below_alloc w _).grown hg (by simp) (fun k hk => (HO.out.lt k hk).1)⟩); clear hown hg hv)
    go_ret
    unfold CrP
    exact ⟨_, rfl, HV.out.1, HV.out.2⟩
theorem code_credits {w : World} {base P bm cm n m : Nat} {V : CrsV} {F : Docs} {C : Crs} (H : SetAt w base P bm cm n m V F C) (s : ByteArray) (hk : okKey s) (L : List ByteArray) (hC : C s = L) (hl : L.length ≤ 1000) : Calls Try.prog 16 #[.pointer (some ⟨P, 0, none⟩), .string s] w (CrP w L) := by
  have HM := Lib.hid (code_made w P bm (cells2 H.box).1)
  obtain ⟨c0, c1⟩ := cells2 H.box
  have hlk := H.crs.look hk
  have HC := Lib.hid (code_cloneS base (V s) L w (by rw [← hC]; exact H.crs.2.1 s) hl)
  clear H hC hl hk
  generalize V s = v at hlk HC
  go_enter Try.func16, Try.ntmps16
  go_wp2_with (first
    | (go_at_call 22; refine HM.out.mono ?_; rintro e w1 ⟨rfl, rfl⟩)
    | (go_at_call 28; refine HC.out.mono ?_; rintro e w1 ⟨v1, rfl, hp⟩; have HP := Lib.hid hp; clear hp))
  go_ret
  unfold CrP
  exact ⟨v1, rfl, HP.out⟩
end Go.Proofs.Ytjanhgekocpobaa
