/- The program's lexer against the document's, walked. -/
import Derived.Test.YtfjecohokmelfaaDoorLxM
namespace Go.Proofs.YtfjecohokmelfaaDoor
open Go.RowKit
set_option maxRecDepth 100000
set_option linter.unusedSimpArgs false
set_option linter.unusedVariables false

set_option maxHeartbeats 1000000 in
theorem reads_mid (s x : ByteArray) (w : World) (h1 : (6000 : Int) < (s.size : Int)) (h2 : (s.size : Int) ≤ 65536) : Calls Tryd.prog 3 #[.string s, .string x] w fun e w' => e = .returned (.bool true) ∧ Below w.heap.size w w' := by
  have HLv := Lib.hid code_lives
  go_enter Tryd.func3, Tryd.ntmps3
  go_wp2_with (go_at_call 6; refine (HLv.out _).mono ?_; rintro e w1 ⟨rfl, hb⟩; have HB1 := Lib.hid hb; clear hb)
  go_ret
  exact ⟨rfl, HB1.out⟩
set_option maxHeartbeats 1000000 in
theorem reads_far (s x : ByteArray) (w : World) (h1 : (6000 : Int) < (s.size : Int)) (h2 : (65536 : Int) < (s.size : Int)) (h3 : (131072 : Int) < (s.size : Int)) : Calls Tryd.prog 3 #[.string s, .string x] w fun e w' => e = .returned (.bool true) ∧ Below w.heap.size w w' := by
  have HLv := Lib.hid code_lives
  go_enter Tryd.func3, Tryd.ntmps3
  go_wp2_with (go_at_call 6; refine (HLv.out _).mono ?_; rintro e w1 ⟨rfl, hb⟩; have HB1 := Lib.hid hb; clear hb)
  go_ret
  exact ⟨rfl, HB1.out⟩
set_option maxHeartbeats 1000000 in
theorem reads_wordL (s x : ByteArray) (w : World) (h1 : (6000 : Int) < (s.size : Int)) (h2 : (65536 : Int) < (s.size : Int)) (h3 : (s.size : Int) ≤ 131072) (h4 : (100 : Int) < (x.size : Int)) : Calls Tryd.prog 3 #[.string s, .string x] w fun e w' => e = .returned (.bool true) ∧ Below w.heap.size w w' := by
  have HLv := Lib.hid code_lives
  go_enter Tryd.func3, Tryd.ntmps3
  go_wp2_with (go_at_call 6; refine (HLv.out _).mono ?_; rintro e w1 ⟨rfl, hb⟩; have HB1 := Lib.hid hb; clear hb)
  go_ret
  exact ⟨rfl, HB1.out⟩
set_option maxHeartbeats 1000000 in
theorem reads_wordS (s x : ByteArray) (w : World) (h1 : (s.size : Int) ≤ 6000) (h3 : (s.size : Int) ≤ 131072) (h4 : (100 : Int) < (x.size : Int)) : Calls Tryd.prog 3 #[.string s, .string x] w fun e w' => e = .returned (.bool true) ∧ Below w.heap.size w w' := by
  have HLv := Lib.hid code_lives
  go_enter Tryd.func3, Tryd.ntmps3
  go_wp2_with (go_at_call 6; refine (HLv.out _).mono ?_; rintro e w1 ⟨rfl, hb⟩; have HB1 := Lib.hid hb; clear hb)
  go_ret
  exact ⟨rfl, HB1.out⟩
/-- what the walk needs of the two texts' answers -/
theorem both_lex (s : ByteArray) (h : s.size ≤ 65536 ∨ 65536 < s.size) : ∃ (L : List TokV) (a0 e0 : Int), (∀ W, Calls Tryd.prog 7 #[.string s] W fun e w' => ∃ A c, e = .returned (.tuple #[.slice A L.length c, .int .i64 a0, .int .i64 e0]) ∧ RowTokV w' A L ∧ Below W.heap.size W w') ∧
    (∀ W, Calls Tryd.prog 8 #[.string s] W fun e w' => ∃ A c, e = .returned (.tuple #[.slice A L.length c, .int .i64 a0, .int .i64 e0]) ∧ RowTokR w' A L ∧ Below W.heap.size W w') ∧ L.length ≤ 65536 ∧ sumT L ≤ 65536 ∧ (showL L).length ≤ 131072 := by
  rcases h with h | h
  · exact ⟨_, _, _, fun W => code_lexF s W h, fun W => ref_lexF s W h, lex_few h⟩
  · exact ⟨[], 0, 11, fun W => (code_lex_long s W h).mono fun e w' ⟨he, hw⟩ => ⟨none, 0, he, RowTokV.nil, hw ▸ Below.refl _ _⟩, fun W => (ref_lex_long s W h).mono fun e w' ⟨he, hw⟩ => ⟨none, 0, he, RowTokR.nil, hw ▸ Below.refl _ _⟩, by decide, by decide, by decide⟩
set_option maxHeartbeats 2000000 in
theorem reads_long (s x : ByteArray) (w : World) (h1 : (6000 : Int) < (s.size : Int)) (h2 : (65536 : Int) < (s.size : Int)) (h3 : (s.size : Int) ≤ 131072) (h4 : (x.size : Int) ≤ 100) : Calls Tryd.prog 3 #[.string s, .string x] w fun e w' => e = .returned (.bool true) ∧ Below w.heap.size w w' := by
  have HLv := Lib.hid code_lives
  obtain ⟨L, a0, e0, hc1, hc2, hl1, hl2, hl3⟩ := both_lex s (by omega)
  have HC1 := Lib.hid hc1
  have HC2 := Lib.hid hc2
  have HC3 : Hid (∀ A A' c c' W, RowTokV W A L → RowTokR W A' L → Calls Tryd.prog 9 #[.slice A L.length c, .slice A' L.length c'] W fun e w' => e = .returned (.bool true) ∧ Below W.heap.size W w') := Lib.hid (fun A A' c c' W h h' => code_same L A A' c c' W (by omega) h h')
  obtain ⟨sh, hsh⟩ : ∃ sh : ByteArray, sh = ⟨(showL L).toArray⟩ := ⟨_, rfl⟩
  have HC4 : Hid (∀ A c W, RowTokV W A L → Calls Tryd.prog 10 #[.slice A L.length c] W fun e w' => e = .returned (.string sh) ∧ Below W.heap.size W w') := Lib.hid (fun A c W h => hsh ▸ code_show L A c W (by omega) (by omega) h)
  have HC5 : Hid (∀ A c W, RowTokR W A L → Calls Tryd.prog 11 #[.slice A L.length c] W fun e w' => e = .returned (.string sh) ∧ W = w') := Lib.hid (fun A c W h => hsh ▸ ref_show L A c W (by omega) (by omega) h)
  clear hc1 hc2 hl1 hl2 hl3 hsh
  generalize L.length = n at HC1 HC2 HC3 HC4 HC5
  have HK1 : Hid (∀ W, Calls Tryd.prog 12 #[.string x] W fun e w' => e = .returned (.bool (kwB x)) ∧ W = w') := Lib.hid (fun W => code_Keyword x W)
  have HK2 : Hid (∀ W, Calls Tryd.prog 13 #[.string x] W fun e w' => e = .returned (.bool (kwB x)) ∧ W = w') := Lib.hid (fun W => ref_Keyword x W)
  generalize kwB x = kw at HK1 HK2
  go_enter Tryd.func3, Tryd.ntmps3
  go_wp2_with (go_at_call 7; refine (HC1.out _).mono ?_; rintro e w1 ⟨A, c, rfl, hr, hb⟩; have HR1 := Lib.hid hr; have HB1 := Lib.hid hb; clear hr hb; refine Stop.out ?_)
  unfold Stop
  go_wp2_with (go_at_call 8; refine (HC2.out _).mono ?_; rintro e w2 ⟨A', c', rfl, hr, hb⟩; have HR2 := Lib.hid hr; have HQ2 := Lib.hid (HR1.out.on hb); have HB2 := Lib.hid (below_then HB1.out hb); clear hr hb; refine Stop.out ?_)
  unfold Stop
  go_wp2_with (go_at_call 9; refine (HC3.out _ _ _ _ _ HQ2.out HR2.out).mono ?_; rintro e w3 ⟨rfl, hb⟩; have HR3 := Lib.hid (HR2.out.on hb); have HQ3 := Lib.hid (HQ2.out.on hb); have HB3 := Lib.hid (below_then HB2.out hb); clear hb; refine Stop.out ?_)
  unfold Stop
  go_wp2_with (go_at_call 10; refine (HC4.out _ _ _ HQ3.out).mono ?_; rintro e w4 ⟨rfl, hb⟩; have HR4 := Lib.hid (HR3.out.on hb); have HB4 := Lib.hid (below_then HB3.out hb); clear hb; refine Stop.out ?_)
  unfold Stop
  go_wp2_with (go_at_call 11; refine (HC5.out _ _ _ HR4.out).mono ?_; rintro e w5 ⟨rfl, rfl⟩; refine Stop.out ?_)
  unfold Stop
  go_wp2_with (go_at_call 12; refine (HK1.out _).mono ?_; rintro e w6 ⟨rfl, rfl⟩; refine Stop.out ?_)
  unfold Stop
  go_wp2_with (go_at_call 13; refine (HK2.out _).mono ?_; rintro e w6 ⟨rfl, rfl⟩; refine Stop.out ?_)
  unfold Stop
  cases kw
  all_goals
    go_wp2_with (go_at_call 6; refine (HLv.out _).mono ?_; rintro e w7 ⟨rfl, hb⟩; have HB7 := Lib.hid (below_then HB4.out hb); clear hb)
    go_ret
    exact ⟨rfl, HB7.out⟩
set_option maxHeartbeats 2000000 in
theorem reads_short (s x : ByteArray) (w : World) (h1 : (s.size : Int) ≤ 6000) (h3 : (s.size : Int) ≤ 131072) (h4 : (x.size : Int) ≤ 100) : Calls Tryd.prog 3 #[.string s, .string x] w fun e w' => e = .returned (.bool true) ∧ Below w.heap.size w w' := by
  have HLv := Lib.hid code_lives
  obtain ⟨L, a0, e0, hc1, hc2, hl1, hl2, hl3⟩ := both_lex s (by omega)
  have HC1 := Lib.hid hc1
  have HC2 := Lib.hid hc2
  have HC3 : Hid (∀ A A' c c' W, RowTokV W A L → RowTokR W A' L → Calls Tryd.prog 9 #[.slice A L.length c, .slice A' L.length c'] W fun e w' => e = .returned (.bool true) ∧ Below W.heap.size W w') := Lib.hid (fun A A' c c' W h h' => code_same L A A' c c' W (by omega) h h')
  obtain ⟨sh, hsh⟩ : ∃ sh : ByteArray, sh = ⟨(showL L).toArray⟩ := ⟨_, rfl⟩
  have HC4 : Hid (∀ A c W, RowTokV W A L → Calls Tryd.prog 10 #[.slice A L.length c] W fun e w' => e = .returned (.string sh) ∧ Below W.heap.size W w') := Lib.hid (fun A c W h => hsh ▸ code_show L A c W (by omega) (by omega) h)
  have HC5 : Hid (∀ A c W, RowTokR W A L → Calls Tryd.prog 11 #[.slice A L.length c] W fun e w' => e = .returned (.string sh) ∧ W = w') := Lib.hid (fun A c W h => hsh ▸ ref_show L A c W (by omega) (by omega) h)
  clear hc1 hc2 hl1 hl2 hl3 hsh
  generalize L.length = n at HC1 HC2 HC3 HC4 HC5
  have HK1 : Hid (∀ W, Calls Tryd.prog 12 #[.string x] W fun e w' => e = .returned (.bool (kwB x)) ∧ W = w') := Lib.hid (fun W => code_Keyword x W)
  have HK2 : Hid (∀ W, Calls Tryd.prog 13 #[.string x] W fun e w' => e = .returned (.bool (kwB x)) ∧ W = w') := Lib.hid (fun W => ref_Keyword x W)
  generalize kwB x = kw at HK1 HK2
  go_enter Tryd.func3, Tryd.ntmps3
  go_wp2_with (go_at_call 7; refine (HC1.out _).mono ?_; rintro e w1 ⟨A, c, rfl, hr, hb⟩; have HR1 := Lib.hid hr; have HB1 := Lib.hid hb; clear hr hb; refine Stop.out ?_)
  unfold Stop
  go_wp2_with (go_at_call 8; refine (HC2.out _).mono ?_; rintro e w2 ⟨A', c', rfl, hr, hb⟩; have HR2 := Lib.hid hr; have HQ2 := Lib.hid (HR1.out.on hb); have HB2 := Lib.hid (below_then HB1.out hb); clear hr hb; refine Stop.out ?_)
  unfold Stop
  go_wp2_with (go_at_call 9; refine (HC3.out _ _ _ _ _ HQ2.out HR2.out).mono ?_; rintro e w3 ⟨rfl, hb⟩; have HR3 := Lib.hid (HR2.out.on hb); have HQ3 := Lib.hid (HQ2.out.on hb); have HB3 := Lib.hid (below_then HB2.out hb); clear hb; refine Stop.out ?_)
  unfold Stop
  go_wp2_with (go_at_call 10; refine (HC4.out _ _ _ HQ3.out).mono ?_; rintro e w4 ⟨rfl, hb⟩; have HR4 := Lib.hid (HR3.out.on hb); have HB4 := Lib.hid (below_then HB3.out hb); clear hb; refine Stop.out ?_)
  unfold Stop
  go_wp2_with (go_at_call 11; refine (HC5.out _ _ _ HR4.out).mono ?_; rintro e w5 ⟨rfl, rfl⟩; refine Stop.out ?_)
  unfold Stop
  go_wp2_with (go_at_call 12; refine (HK1.out _).mono ?_; rintro e w6 ⟨rfl, rfl⟩; refine Stop.out ?_)
  unfold Stop
  go_wp2_with (go_at_call 13; refine (HK2.out _).mono ?_; rintro e w6 ⟨rfl, rfl⟩; refine Stop.out ?_)
  unfold Stop
  cases kw
  all_goals
    go_wp2_with (go_at_call 6; refine (HLv.out _).mono ?_; rintro e w7 ⟨rfl, hb⟩; have HB7 := Lib.hid (below_then HB4.out hb); clear hb)
    go_ret
    exact ⟨rfl, HB7.out⟩
theorem lexerReads_any (s x : ByteArray) (w : World) : Calls Tryd.prog 3 #[.string s, .string x] w fun e w' => e = .returned (.bool true) ∧ Below w.heap.size w w' := by
  by_cases h1 : (6000 : Int) < (s.size : Int)
  · by_cases h2 : (s.size : Int) ≤ 65536
    · exact reads_mid s x w h1 h2
    · by_cases h3 : (131072 : Int) < (s.size : Int)
      · exact reads_far s x w h1 (by omega) h3
      · by_cases h4 : (100 : Int) < (x.size : Int)
        · exact reads_wordL s x w h1 (by omega) (by omega) h4
        · exact reads_long s x w h1 (by omega) (by omega) (by omega)
  · by_cases h4 : (100 : Int) < (x.size : Int)
    · exact reads_wordS s x w (by omega) (by omega) h4
    · exact reads_short s x w (by omega) (by omega) (by omega)
end Go.Proofs.YtfjecohokmelfaaDoor
