/- Documents that are there: what a set that no call made tells of one; whether one is light. Documents that are there: what a set that a call made tells of one. -/
import Derived.Test.YtjanhgekocpobaaIdL
import Derived.Test.YtjanhgekocpobaaDocC
import Derived.Test.YtjanhgekocpobaaDocJ
namespace Go.Proofs.Ytjanhgekocpobaa
open Go.RowKit
set_option maxRecDepth 100000
set_option linter.unusedSimpArgs false
set_option linter.unusedVariables false
attribute [local go_sem] Oper.semAt_some

theorem results_doc {fn : Func} {p q : Tmp} (h : fn.results = #[.cell p 29, .tmp q]) (tmps : Array Value) (W : World) (g : Nat) (cs : Array Value) (hz : cs.size = 9) (b : Value) (hp : tmps.getD p undef = .pointer (some ⟨g, 0, none⟩)) (hq : tmps.getD q undef = b) (t : TypeId) (fr : Nat × Nat)
    (hc : W.heap[g]? = some (.cells cs t fr)) : (results fn tmps).run Try.prog W = .ok (.tuple #[.agg cs, b]) W := by
  have hr := run_loadVar_row (P := Try.prog) W g t 29 cs fr _ hc Try.underlying29 rfl (by rw [hz]; exact doc_info)
  have hp' : tmps[p]?.getD undef = .pointer (some ⟨g, 0, none⟩) := by simpa [Array.getD_eq_getD_getElem?] using hp
  have hq' : tmps[q]?.getD undef = b := by simpa [Array.getD_eq_getD_getElem?] using hq
  have ha : (asAddr (tmps[p]?.getD undef)).run Try.prog W = .ok ⟨g, 0, none⟩ W := by rw [hp']; rfl
  simp [results, h, Sem.run_bind, ha, hr, hq']
theorem get_not {p : Value} {w : World} (s : ByteArray) (h : NotMade p w) : Calls Try.prog 12 #[p, .string s] w fun e w' => e = .returned (.tuple #[.agg #[.string ⟨#[]⟩, .bool false, .bool false, .string ⟨#[]⟩, .int .i64 0, .string ⟨#[]⟩, .string ⟨#[]⟩, .string ⟨#[]⟩, .slice none 0 0], .bool false]) ∧ Below w.heap.size w w' := by
  have HM := Lib.hid (h (w.alloc (.cells #[.string ⟨#[]⟩, .bool false, .bool false, .string ⟨#[]⟩, .int .i64 0, .string ⟨#[]⟩, .string ⟨#[]⟩, .string ⟨#[]⟩, .slice none 0 0] 29)) (below_alloc w _))
  have H0 := Lib.hid (heap_alloc_new w (.cells #[.string ⟨#[]⟩, .bool false, .bool false, .string ⟨#[]⟩, .int .i64 0, .string ⟨#[]⟩, .string ⟨#[]⟩, .string ⟨#[]⟩, .slice none 0 0] 29))
  have HB := Lib.hid (below_alloc w (.cells #[.string ⟨#[]⟩, .bool false, .bool false, .string ⟨#[]⟩, .int .i64 0, .string ⟨#[]⟩, .string ⟨#[]⟩, .string ⟨#[]⟩, .slice none 0 0] 29))
  clear h
  go_enter Try.func12, Try.ntmps12
  go_wp2_with (first
    | (go_at_call 22; refine HM.out.mono ?_; rintro e w1 ⟨rfl, rfl⟩)
    | ((with_reducible refine wpList_store_row (o := ⟨none, _, _, _, _, _⟩) ?b1 29 (.tmp 4) (.tmp 11) ?b2 w.heap.size #[.string ⟨#[]⟩, .bool false, .bool false, .string ⟨#[]⟩, .int .i64 0, .string ⟨#[]⟩, .string ⟨#[]⟩, .string ⟨#[]⟩, .slice none 0 0] ?b3 ?b4 29 #[.string ⟨#[]⟩, .bool false, .bool false, .string ⟨#[]⟩, .int .i64 0, .string ⟨#[]⟩, .string ⟨#[]⟩, .string ⟨#[]⟩, .slice none 0 0] ?b7 ?b6 ?b5 ?b8 ?_); (case b1 => rfl); (case b2 => rfl); (case b3 => rfl); (case b4 => rfl); (case b7 => exact H0.out); (case b6 => exact doc_info); (case b5 => rfl); (case b8 => simp [Value.oneCell']); (try simp only [Act.put]); refine Stop.out ?_))
  unfold Stop
  have HR := Lib.hid (setRow_heap (w.alloc (.cells #[.string ⟨#[]⟩, .bool false, .bool false, .string ⟨#[]⟩, .int .i64 0, .string ⟨#[]⟩, .string ⟨#[]⟩, .string ⟨#[]⟩, .slice none 0 0] 29)) w.heap.size _ #[.string ⟨#[]⟩, .bool false, .bool false, .string ⟨#[]⟩, .int .i64 0, .string ⟨#[]⟩, .string ⟨#[]⟩, .string ⟨#[]⟩, .slice none 0 0] _ _ H0.out)
  have HB2 := Lib.hid (below_setRow (g := w.heap.size) HB.out (Nat.le_refl _) #[.string ⟨#[]⟩, .bool false, .bool false, .string ⟨#[]⟩, .int .i64 0, .string ⟨#[]⟩, .string ⟨#[]⟩, .string ⟨#[]⟩, .slice none 0 0])
  clear H0 HB HM
  generalize World.setRow _ _ _ = w9 at HR HB2 ⊢
  go_wp2
  exact bodyPost_ret (results_doc rfl _ _ w.heap.size #[.string ⟨#[]⟩, .bool false, .bool false, .string ⟨#[]⟩, .int .i64 0, .string ⟨#[]⟩, .string ⟨#[]⟩, .string ⟨#[]⟩, .slice none 0 0] rfl (.bool false) rfl rfl _ _ HR.out) rfl ⟨rfl, HB2.out⟩
def cmdOf (d : DocV) : CmdV := ⟨0, ⟨#[]⟩, ⟨#[]⟩, 0, 0, 0, 0, 0, 0, 0, 0, 0, 0, d.id, d.sale, d.credit, d.refers, d.day, d.country, d.number, d.currency, d.linesA, d.lines, d.linesC⟩
theorem cmdOf_ok {w : World} {d : DocV} (h : DocVOk w d) : CmdVOk w (cmdOf d) := ⟨Nat.zero_le _, Nat.zero_le _, h⟩
set_option maxHeartbeats 2000000 in
theorem light_one (d : DocV) (w : World) (g : Nat) (hd : DocVOk w d) (hg : w.heap[g]? = some (.cells #[.string d.id, .bool d.sale, .bool d.credit, .string d.refers, .int .i64 d.day, .string d.country, .string d.number, .string d.currency, .slice d.linesA d.lines.length d.linesC] 29 (0, 0))) : Calls Try.prog 6 #[.slice (some ⟨g, 0, none⟩) 1 1] w fun e w' => (∃ q, e = .returned (.bool q)) ∧ Below w.heap.size w w' := by
  have HL : Hid (∀ W, Below w.heap.size w W → Calls Try.prog 20 #[.agg #[.int .i64 0, .string ⟨#[]⟩, .string ⟨#[]⟩, .int .i64 0, .int .i64 0, .int .i64 0, .int .i64 0, .int .i64 0, .int .i64 0, .int .i64 0, .int .i64 0, .int .i64 0, .int .i64 0, .string d.id, .bool d.sale, .bool d.credit, .string d.refers, .int .i64 d.day, .string d.country, .string d.number, .string d.currency, .slice d.linesA d.lines.length d.linesC]] W fun e w' => e = .returned (.bool (lightC (cmdOf d))) ∧ Below W.heap.size W w') := Lib.hid (fun W hW => code_light (cmdOf d) W (cmdOf_ok (hd.on hW)) _ rfl)
  generalize lightC (cmdOf d) = q at HL
  have HG := Lib.hid hg
  clear hd hg
  go_enter Try.func6, Try.ntmps6
  go_wp2
  go_loopw [4, 7] (fun v4 v7 wr => ∃ k : Nat, k ≤ 1 ∧ v7 = .int .i64 (k : Nat) ∧ Hid (Below w.heap.size w wr)) (fun _ v7 _ => 1 - (intOf v7).toNat)
  case atStart => exact ⟨0, by decide, rfl, Lib.hid (Below.refl _ _)⟩
  case round =>
    obtain ⟨k, hk, rfl, HB⟩ := hrel
    by_cases h0 : k = 0
    · subst h0
      have HGr := Lib.hid (heap_on HB.out HG.out)
      obtain ⟨u0, u1, u2, u3, u4, u5, u6, u7, u8⟩ := cellsLineV HGr.out
      have HN := Lib.hid (heap_alloc_new wr (.cells #[.string d.id, .bool d.sale, .bool d.credit, .string d.refers, .int .i64 d.day, .string d.country, .string d.number, .string d.currency, .slice d.linesA d.lines.length d.linesC] 29))
      obtain ⟨v0, v1, v2, v3, v4, v5, v6, v7, v8⟩ := cellsLineV HN.out
      have HBn := Lib.hid (below_then HB.out (below_alloc wr (.cells #[.string d.id, .bool d.sale, .bool d.credit, .string d.refers, .int .i64 d.day, .string d.country, .string d.number, .string d.currency, .slice d.linesA d.lines.length d.linesC] 29)))
      cases q
      · go_wp2_with (go_at_call 20; refine (HL.out _ HBn.out).mono ?_; rintro e w3 ⟨rfl, hb⟩; have HB3 := Lib.hid (below_then HBn.out hb); clear hb)
        go_ret
        exact ⟨⟨_, rfl⟩, HB3.out⟩
      · go_wp2_with (go_at_call 20; refine (HL.out _ HBn.out).mono ?_; rintro e w3 ⟨rfl, hb⟩; have HB3 := Lib.hid (below_then HBn.out hb); clear hb; refine Stop.out ?_)
        unfold Stop
        clear u0 u1 u2 u3 u4 u5 u6 u7 u8 v0 v1 v2 v3 v4 v5 v6 v7 v8
        go_wp2
        go_roundw
        case rel => exact ⟨1, by decide, rfl, HB3⟩
        case measure => decide
    · obtain rfl : k = 1 := by omega
      go_wp2
      go_ret
      exact ⟨⟨_, rfl⟩, HB.out⟩
end Go.Proofs.Ytjanhgekocpobaa

namespace Go.Proofs.Ytjanhgekocpobaa
open Go.RowKit
set_option maxRecDepth 100000
set_option linter.unusedSimpArgs false
set_option linter.unusedVariables false
attribute [local go_sem] Oper.semAt_some

theorem docZ_is {w : World} : DocVOk w docZ := ⟨Nat.le_of_ble_eq_true rfl, Nat.le_of_ble_eq_true rfl, Nat.le_of_ble_eq_true rfl, Nat.le_of_ble_eq_true rfl, Nat.le_of_ble_eq_true rfl, RowLineV.nil, (fun _ => ⟨rfl, rfl⟩), Nat.le_of_ble_eq_true rfl, Nat.le_of_ble_eq_true rfl, fun r h => by cases h⟩
theorem DmAt.dOf_ok {w : World} {base bm n : Nat} {F : Docs} (H : DmAt w base bm n F) (s : ByteArray) : DocVOk w (dOf (F s)) := by
  cases e : F s with
  | none => exact docZ_is
  | some d => exact (H.2.1 s d e).1
def GetP (w : World) (x : DocV) (b : Bool) (e : Ending) (w' : World) : Prop := ∃ A c, e = .returned (.tuple #[.agg #[.string x.id, .bool x.sale, .bool x.credit, .string x.refers, .int .i64 x.day, .string x.country, .string x.number, .string x.currency, .slice A x.lines.length c], .bool b]) ∧ DocVOk w' (reL x A c) ∧ Below w.heap.size w w'
set_option maxHeartbeats 2000000 in
theorem code_get {w : World} {base P bm cm n m : Nat} {V : CrsV} {F : Docs} {C : Crs} (H : SetAt w base P bm cm n m V F C) (s : ByteArray) (hk : okKey s) (x : DocV) (hx : dOf (F s) = x) (b : Bool) (hb : (F s).isSome = b) (hl : x.lines.length ≤ 1000) : Calls Try.prog 12 #[.pointer (some ⟨P, 0, none⟩), .string s] w (GetP w x b) := by
  have HM : Hid (∀ W, Below w.heap.size w W → Calls Try.prog 22 #[.pointer (some ⟨P, 0, none⟩)] W fun e w' => e = .returned (.bool true) ∧ W = w') := Lib.hid (fun W hW => code_made W P bm (cells2 (heap_on hW H.box)).1)
  have HL : Hid (∀ W, Below w.heap.size w W → (Instr.lookup 45 (.map (some bm)) (.string s) true).run Try.prog W = .ok (.tuple #[.agg #[.string x.id, .bool x.sale, .bool x.credit, .string x.refers, .int .i64 x.day, .string x.country, .string x.number, .string x.currency, .slice x.linesA x.lines.length x.linesC], .bool b]) W) := Lib.hid (fun W hW => by
    have := (H.docs.on hW).look hk true
    rw [hx, hb] at this
    exact this)
  have HX : Hid (∀ W, Below w.heap.size w W → Calls Try.prog 27 #[.agg #[.string x.id, .bool x.sale, .bool x.credit, .string x.refers, .int .i64 x.day, .string x.country, .string x.number, .string x.currency, .slice x.linesA x.lines.length x.linesC]] W fun e w' => ∃ A c, e = .returned (.agg #[.string x.id, .bool x.sale, .bool x.credit, .string x.refers, .int .i64 x.day, .string x.country, .string x.number, .string x.currency, .slice A x.lines.length c]) ∧ DocVOk w' (reL x A c) ∧ (A = none ∧ x.lines = [] ∨ ∃ g, A = some ⟨g, 0, none⟩ ∧ W.heap.size ≤ g) ∧ Below W.heap.size W w') := Lib.hid (fun W hW => (code_copied x W (by rw [← hx]; exact (H.docs.on hW).dOf_ok s) hl).mono fun e w' ⟨A, c, he, hd, hf, hb⟩ => ⟨A, c, he, hd, hf.imp_right (fun ⟨g, h1, h2, _⟩ => ⟨g, h1, h2⟩), hb⟩)
  have HBox := Lib.hid H.box
  have HZ1 := Lib.hid (heap_alloc_new w (.cells #[.string ⟨#[]⟩, .bool false, .bool false, .string ⟨#[]⟩, .int .i64 0, .string ⟨#[]⟩, .string ⟨#[]⟩, .string ⟨#[]⟩, .slice none 0 0] 29))
  have HB1 := Lib.hid (below_alloc w (.cells #[.string ⟨#[]⟩, .bool false, .bool false, .string ⟨#[]⟩, .int .i64 0, .string ⟨#[]⟩, .string ⟨#[]⟩, .string ⟨#[]⟩, .slice none 0 0] 29))
  clear hl hk hx hb H
  go_enter Try.func12, Try.ntmps12
  go_wp2_with (go_at_call 22; refine (HM.out _ HB1.out).mono ?_; rintro e w9 ⟨rfl, rfl⟩; refine Stop.out ?_)
  unfold Stop
  generalize w.alloc (.cells #[.string ⟨#[]⟩, .bool false, .bool false, .string ⟨#[]⟩, .int .i64 0, .string ⟨#[]⟩, .string ⟨#[]⟩, .string ⟨#[]⟩, .slice none 0 0] 29) = w1 at HZ1 HB1 ⊢
  obtain ⟨g, hg⟩ : ∃ g, g = w.heap.size := ⟨_, rfl⟩
  rw [← hg] at HZ1 ⊢
  have HGg := Lib.hid hg
  clear hg
  obtain ⟨c0, c1⟩ := cells2 (heap_on HB1.out HBox.out)
  have hlk := HL.out _ HB1.out
  have HN0 := Lib.hid (heap_alloc_new w1 (.cells #[.string ⟨#[]⟩, .bool false, .bool false, .string ⟨#[]⟩, .int .i64 0, .string ⟨#[]⟩, .string ⟨#[]⟩, .string ⟨#[]⟩, .slice none 0 0] 29))
  go_wp2_with ((with_reducible refine wpList_store_row (o := ⟨none, _, _, _, _, _⟩) ?b1 29 (.tmp 6) (.tmp 19) ?b2 w1.heap.size #[.string x.id, .bool x.sale, .bool x.credit, .string x.refers, .int .i64 x.day, .string x.country, .string x.number, .string x.currency, .slice x.linesA x.lines.length x.linesC] ?b3 ?b4 29 #[.string ⟨#[]⟩, .bool false, .bool false, .string ⟨#[]⟩, .int .i64 0, .string ⟨#[]⟩, .string ⟨#[]⟩, .string ⟨#[]⟩, .slice none 0 0] ?b7 ?b6 ?b5 ?b8 ?_); (case b1 => rfl); (case b2 => rfl); (case b3 => rfl); (case b4 => rfl); (case b7 => exact HN0.out); (case b6 => exact doc_info); (case b5 => rfl); (case b8 => simp [Value.oneCell']); (try simp only [Act.put]); refine Stop.out ?_)
  unfold Stop
  clear hlk c0 c1
  have HR := Lib.hid (setRow_heap (w1.alloc (.cells #[.string ⟨#[]⟩, .bool false, .bool false, .string ⟨#[]⟩, .int .i64 0, .string ⟨#[]⟩, .string ⟨#[]⟩, .string ⟨#[]⟩, .slice none 0 0] 29)) w1.heap.size _ #[.string x.id, .bool x.sale, .bool x.credit, .string x.refers, .int .i64 x.day, .string x.country, .string x.number, .string x.currency, .slice x.linesA x.lines.length x.linesC] _ _ HN0.out)
  have HB2 := Lib.hid (below_then HB1.out (below_setRow (g := w1.heap.size) (below_alloc w1 (.cells #[.string ⟨#[]⟩, .bool false, .bool false, .string ⟨#[]⟩, .int .i64 0, .string ⟨#[]⟩, .string ⟨#[]⟩, .string ⟨#[]⟩, .slice none 0 0] 29)) (Nat.le_refl _) #[.string x.id, .bool x.sale, .bool x.credit, .string x.refers, .int .i64 x.day, .string x.country, .string x.number, .string x.currency, .slice x.linesA x.lines.length x.linesC]))
  have HZ2 := Lib.hid ((setRow_other (w1.alloc (.cells #[.string ⟨#[]⟩, .bool false, .bool false, .string ⟨#[]⟩, .int .i64 0, .string ⟨#[]⟩, .string ⟨#[]⟩, .string ⟨#[]⟩, .slice none 0 0] 29)) w1.heap.size g #[.string x.id, .bool x.sale, .bool x.credit, .string x.refers, .int .i64 x.day, .string x.country, .string x.number, .string x.currency, .slice x.linesA x.lines.length x.linesC] (by have := heapLt HZ1.out; omega)).trans (heap_on (below_alloc _ _) HZ1.out))
  clear HN0 HZ1
  generalize World.setRow _ _ _ = w2 at HR HB2 HZ2 ⊢
  obtain ⟨k, hk⟩ : ∃ k, k = w1.heap.size := ⟨_, rfl⟩
  rw [← hk] at HR ⊢
  clear hk
  obtain ⟨u0, u1, u2, u3, u4, u5, u6, u7, u8⟩ := cellsLineV HR.out
  go_wp2_with (go_at_call 27; refine (HX.out _ HB2.out).mono ?_; rintro e w3 ⟨A, c, rfl, hd, hf, hb⟩; have HD3 := Lib.hid hd; have HF3 := Lib.hid hf; have HZ3 := Lib.hid (heap_on hb HZ2.out); have HB3 := Lib.hid (below_then HB2.out hb); clear hd hf hb; refine Stop.out ?_)
  unfold Stop
  clear u0 u1 u2 u3 u4 u5 u6 u7 u8 HR HX
  go_wp2_with ((with_reducible refine wpList_store_row (o := ⟨none, _, _, _, _, _⟩) ?b1 29 (.tmp 4) (.tmp 22) ?b2 g #[.string x.id, .bool x.sale, .bool x.credit, .string x.refers, .int .i64 x.day, .string x.country, .string x.number, .string x.currency, .slice A x.lines.length c] ?b3 ?b4 29 #[.string ⟨#[]⟩, .bool false, .bool false, .string ⟨#[]⟩, .int .i64 0, .string ⟨#[]⟩, .string ⟨#[]⟩, .string ⟨#[]⟩, .slice none 0 0] ?b7 ?b6 ?b5 ?b8 ?_); (case b1 => rfl); (case b2 => rfl); (case b3 => rfl); (case b4 => rfl); (case b7 => exact HZ3.out); (case b6 => exact doc_info); (case b5 => rfl); (case b8 => simp [Value.oneCell']); (try simp only [Act.put]); refine Stop.out ?_)
  unfold Stop
  have HR4 := Lib.hid (setRow_heap w3 g _ #[.string x.id, .bool x.sale, .bool x.credit, .string x.refers, .int .i64 x.day, .string x.country, .string x.number, .string x.currency, .slice A x.lines.length c] _ _ HZ3.out)
  have HB4 := Lib.hid (below_setRow (g := g) HB3.out (by have := HGg.out; omega) #[.string x.id, .bool x.sale, .bool x.credit, .string x.refers, .int .i64 x.day, .string x.country, .string x.number, .string x.currency, .slice A x.lines.length c])
  have HD4 : Hid (DocVOk (w3.setRow g #[.string x.id, .bool x.sale, .bool x.credit, .string x.refers, .int .i64 x.day, .string x.country, .string x.number, .string x.currency, .slice A x.lines.length c]) (reL x A c)) := Lib.hid (by
    obtain ⟨h1, h2, h3, h4, h5, h6, h7⟩ := HD3.out
    refine ⟨h1, h2, h3, h4, h5, fun hn => ?_, h7⟩
    obtain ⟨b, o, e, hb, hra⟩ := h6 hn
    have hne : b ≠ g := fun e2 => by
      have hgl := heapLt HZ2.out
      rcases HF3.out with ⟨e3, e4⟩ | ⟨g2, e3, hge⟩
      · exact hn e4
      · have e5 : A = some ⟨b, o, none⟩ := e
        rw [e3] at e5
        injection e5 with e5
        injection e5 with e6
        omega
    exact ⟨b, o, e, by rw [setRow_size]; exact hb, fun j v hv => (World.cell?_of_block (setRow_other _ _ _ _ hne)).trans (hra j v hv)⟩)
  generalize World.setRow _ _ _ = w4 at HR4 HB4 HD4 ⊢
  go_wp2
  exact bodyPost_ret (results_doc rfl _ _ g #[.string x.id, .bool x.sale, .bool x.credit, .string x.refers, .int .i64 x.day, .string x.country, .string x.number, .string x.currency, .slice A x.lines.length c] rfl (.bool b) rfl rfl _ _ HR4.out) rfl ⟨A, c, rfl, HD4.out, HB4.out⟩
end Go.Proofs.Ytjanhgekocpobaa
