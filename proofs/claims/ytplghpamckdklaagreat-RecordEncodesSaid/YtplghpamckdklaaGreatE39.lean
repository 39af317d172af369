/- What may be has bytes, and these are what is written. Commands as bytes: Encode, any command. A command's box, its fields stored one by one, beside a reader. -/
import Derived.Test.YtplghpamckdklaaGreatE35
import Derived.Test.YtplghpamckdklaaGreatE37
import Derived.Test.YtplghpamckdklaaGreatE38
import Derived.WalkMore
import Derived.Test.YtplghpamckdklaaGreatE16
import Derived.Test.YtplghpamckdklaaGreatE8
import Derived.Test.YtplghpamckdklaaGreatE9
import Derived.Laws.Rows
import Derived.Laws.Tables
import Derived.Laws.CopyRow
namespace Go.Proofs.YtplghpamckdklaaGreat
open Go.RowKit
set_option maxRecDepth 100000
set_option linter.unusedSimpArgs false
set_option linter.unusedVariables false

noncomputable def bodyT (x : CmdV) : Text := if x.kind = 1 then (sB x.state ++ (nB x.index ++ (nB x.from_ ++ []))) else if x.kind = 2 then (sB x.state ++ (nB x.category ++ (nB x.from_ ++ (nB x.until_ ++ (nB x.bp ++ []))))) else if x.kind = 3 then (nB x.from_ ++ (nB x.until_ ++ [])) else if x.kind = 4 then (sB x.state ++ (sB x.text ++ (nB x.from_ ++ (nB x.until_ ++ [])))) else if x.kind = 5 then (sB x.text ++ (nB x.py ++ (nB x.pi ++ (nB x.num ++ (nB x.den ++ []))))) else if x.kind = 6 then (sB x.text ++ []) else if x.kind = 7 then (nB x.py ++ (nB x.num ++ [])) else if x.kind = 8 then headW (docOf x) (linesW x.lines []) else if x.kind = 9 then (nB x.pk ++ (nB x.py ++ (nB x.pi ++ []))) else if x.kind = 10 then (nB x.pk ++ (nB x.py ++ (nB x.pi ++ []))) else if x.kind = 11 then (nB x.py ++ []) else []
noncomputable def encT (x : CmdV) : Text := nB x.kind ++ bodyT x
theorem per_or {pk py pi : Int} (h : perB 1 pk py pi = true ∨ perB 2 pk py pi = true) : NR pk ∧ NR py ∧ NR pi := by
 rcases h with h | h
 · have := per_is h
   exact ⟨by rw [this.1]; exact ⟨by omega, by omega⟩, this.2.1, this.2.2.1⟩
 · have := per_is h
   exact ⟨by rw [this.1]; exact ⟨by omega, by omega⟩, this.2.1, this.2.2.1⟩
theorem goodC_1 {x : CmdV} (hk : x.kind = 1) : goodC x = ((isMem x.state && (inB x.index 1 2 && inB x.from_ 0 2932896)) && sameC (un1 x) (kindX x.kind)) := by unfold goodC; rw [if_pos hk]
theorem bodyT_1 {x : CmdV} (hk : x.kind = 1) : bodyT x = (sB x.state ++ (nB x.index ++ (nB x.from_ ++ []))) := by unfold bodyT; rw [if_pos hk]
theorem goodC_2 {x : CmdV} (hk : x.kind = 2) : goodC x = ((isMem x.state && (inB x.category 1 3 && (inB x.bp 0 10000 && stretchB x.from_ x.until_))) && sameC (un2 x) (kindX x.kind)) := by unfold goodC; rw [if_neg (by omega)]; rw [if_pos hk]
theorem bodyT_2 {x : CmdV} (hk : x.kind = 2) : bodyT x = (sB x.state ++ (nB x.category ++ (nB x.from_ ++ (nB x.until_ ++ (nB x.bp ++ []))))) := by unfold bodyT; rw [if_neg (by omega)]; rw [if_pos hk]
theorem goodC_3 {x : CmdV} (hk : x.kind = 3) : goodC x = ((stretchB x.from_ x.until_) && sameC (un3 x) (kindX x.kind)) := by unfold goodC; rw [if_neg (by omega)]; rw [if_neg (by omega)]; rw [if_pos hk]
theorem bodyT_3 {x : CmdV} (hk : x.kind = 3) : bodyT x = (nB x.from_ ++ (nB x.until_ ++ [])) := by unfold bodyT; rw [if_neg (by omega)]; rw [if_neg (by omega)]; rw [if_pos hk]
theorem goodC_4 {x : CmdV} (hk : x.kind = 4) : goodC x = ((rightP x.state x.text && stretchB x.from_ x.until_) && sameC (un4 x) (kindX x.kind)) := by unfold goodC; rw [if_neg (by omega)]; rw [if_neg (by omega)]; rw [if_neg (by omega)]; rw [if_pos hk]
theorem bodyT_4 {x : CmdV} (hk : x.kind = 4) : bodyT x = (sB x.state ++ (sB x.text ++ (nB x.from_ ++ (nB x.until_ ++ [])))) := by unfold bodyT; rw [if_neg (by omega)]; rw [if_neg (by omega)]; rw [if_neg (by omega)]; rw [if_pos hk]
theorem goodC_5 {x : CmdV} (hk : x.kind = 5) : goodC x = ((currB x.text && (perB 2 x.pk x.py x.pi && (inB x.num 1 1099511627776 && inB x.den 1 1099511627776))) && sameC (un5 x) (kindX x.kind)) := by unfold goodC; rw [if_neg (by omega)]; rw [if_neg (by omega)]; rw [if_neg (by omega)]; rw [if_neg (by omega)]; rw [if_pos hk]
theorem bodyT_5 {x : CmdV} (hk : x.kind = 5) : bodyT x = (sB x.text ++ (nB x.py ++ (nB x.pi ++ (nB x.num ++ (nB x.den ++ []))))) := by unfold bodyT; rw [if_neg (by omega)]; rw [if_neg (by omega)]; rw [if_neg (by omega)]; rw [if_neg (by omega)]; rw [if_pos hk]
theorem goodC_6 {x : CmdV} (hk : x.kind = 6) : goodC x = ((decide (x.text.size ≤ 65536)) && sameC (un6 x) (kindX x.kind)) := by unfold goodC; rw [if_neg (by omega)]; rw [if_neg (by omega)]; rw [if_neg (by omega)]; rw [if_neg (by omega)]; rw [if_neg (by omega)]; rw [if_pos hk]
theorem bodyT_6 {x : CmdV} (hk : x.kind = 6) : bodyT x = (sB x.text ++ []) := by unfold bodyT; rw [if_neg (by omega)]; rw [if_neg (by omega)]; rw [if_neg (by omega)]; rw [if_neg (by omega)]; rw [if_neg (by omega)]; rw [if_pos hk]
theorem goodC_7 {x : CmdV} (hk : x.kind = 7) : goodC x = ((inB x.num 0 100 && perB 3 x.pk x.py x.pi) && sameC (un7 x) (kindX x.kind)) := by unfold goodC; rw [if_neg (by omega)]; rw [if_neg (by omega)]; rw [if_neg (by omega)]; rw [if_neg (by omega)]; rw [if_neg (by omega)]; rw [if_neg (by omega)]; rw [if_pos hk]
theorem bodyT_7 {x : CmdV} (hk : x.kind = 7) : bodyT x = (nB x.py ++ (nB x.num ++ [])) := by unfold bodyT; rw [if_neg (by omega)]; rw [if_neg (by omega)]; rw [if_neg (by omega)]; rw [if_neg (by omega)]; rw [if_neg (by omega)]; rw [if_neg (by omega)]; rw [if_pos hk]
theorem goodC_8 {x : CmdV} (hk : x.kind = 8) : goodC x = ((docGood (docOf x) (rightP x.country x.number) (currB x.currency)) && sameC (un8 x) (kindX x.kind)) := by unfold goodC; rw [if_neg (by omega)]; rw [if_neg (by omega)]; rw [if_neg (by omega)]; rw [if_neg (by omega)]; rw [if_neg (by omega)]; rw [if_neg (by omega)]; rw [if_neg (by omega)]; rw [if_pos hk]
theorem bodyT_8 {x : CmdV} (hk : x.kind = 8) : bodyT x = headW (docOf x) (linesW x.lines []) := by unfold bodyT; rw [if_neg (by omega)]; rw [if_neg (by omega)]; rw [if_neg (by omega)]; rw [if_neg (by omega)]; rw [if_neg (by omega)]; rw [if_neg (by omega)]; rw [if_neg (by omega)]; rw [if_pos hk]
theorem goodC_9 {x : CmdV} (hk : x.kind = 9) : goodC x = ((perB 1 x.pk x.py x.pi || perB 2 x.pk x.py x.pi) && sameC (un9 x) (kindX x.kind)) := by unfold goodC; rw [if_neg (by omega)]; rw [if_neg (by omega)]; rw [if_neg (by omega)]; rw [if_neg (by omega)]; rw [if_neg (by omega)]; rw [if_neg (by omega)]; rw [if_neg (by omega)]; rw [if_neg (by omega)]; rw [if_pos hk]
theorem bodyT_9 {x : CmdV} (hk : x.kind = 9) : bodyT x = (nB x.pk ++ (nB x.py ++ (nB x.pi ++ []))) := by unfold bodyT; rw [if_neg (by omega)]; rw [if_neg (by omega)]; rw [if_neg (by omega)]; rw [if_neg (by omega)]; rw [if_neg (by omega)]; rw [if_neg (by omega)]; rw [if_neg (by omega)]; rw [if_neg (by omega)]; rw [if_pos hk]
theorem goodC_10 {x : CmdV} (hk : x.kind = 10) : goodC x = ((perB 1 x.pk x.py x.pi || perB 2 x.pk x.py x.pi) && sameC (un10 x) (kindX x.kind)) := by unfold goodC; rw [if_neg (by omega)]; rw [if_neg (by omega)]; rw [if_neg (by omega)]; rw [if_neg (by omega)]; rw [if_neg (by omega)]; rw [if_neg (by omega)]; rw [if_neg (by omega)]; rw [if_neg (by omega)]; rw [if_neg (by omega)]; rw [if_pos hk]
theorem bodyT_10 {x : CmdV} (hk : x.kind = 10) : bodyT x = (nB x.pk ++ (nB x.py ++ (nB x.pi ++ []))) := by unfold bodyT; rw [if_neg (by omega)]; rw [if_neg (by omega)]; rw [if_neg (by omega)]; rw [if_neg (by omega)]; rw [if_neg (by omega)]; rw [if_neg (by omega)]; rw [if_neg (by omega)]; rw [if_neg (by omega)]; rw [if_neg (by omega)]; rw [if_pos hk]
theorem goodC_11 {x : CmdV} (hk : x.kind = 11) : goodC x = ((perB 3 x.pk x.py x.pi) && sameC (un11 x) (kindX x.kind)) := by unfold goodC; rw [if_neg (by omega)]; rw [if_neg (by omega)]; rw [if_neg (by omega)]; rw [if_neg (by omega)]; rw [if_neg (by omega)]; rw [if_neg (by omega)]; rw [if_neg (by omega)]; rw [if_neg (by omega)]; rw [if_neg (by omega)]; rw [if_neg (by omega)]; rw [if_pos hk]
theorem bodyT_11 {x : CmdV} (hk : x.kind = 11) : bodyT x = (nB x.py ++ []) := by unfold bodyT; rw [if_neg (by omega)]; rw [if_neg (by omega)]; rw [if_neg (by omega)]; rw [if_neg (by omega)]; rw [if_neg (by omega)]; rw [if_neg (by omega)]; rw [if_neg (by omega)]; rw [if_neg (by omega)]; rw [if_neg (by omega)]; rw [if_neg (by omega)]; rw [if_pos hk]
theorem goodC_O {x : CmdV} (hk : x.kind < 1 ∨ 11 < x.kind) : goodC x = false := by unfold goodC; rw [if_neg (by omega)]; rw [if_neg (by omega)]; rw [if_neg (by omega)]; rw [if_neg (by omega)]; rw [if_neg (by omega)]; rw [if_neg (by omega)]; rw [if_neg (by omega)]; rw [if_neg (by omega)]; rw [if_neg (by omega)]; rw [if_neg (by omega)]; rw [if_neg (by omega)]
theorem good_is_1 {x : CmdV} (hk : x.kind = 1) (hg : goodC x = true) : (isMem x.state && (inB x.index 1 2 && inB x.from_ 0 2932896)) = true ∧ sameC x (on1 x) = true := by
 rw [goodC_1 hk, ← sames_1] at hg
 exact Bool.and_eq_true_iff.1 hg
theorem good_is_2 {x : CmdV} (hk : x.kind = 2) (hg : goodC x = true) : (isMem x.state && (inB x.category 1 3 && (inB x.bp 0 10000 && stretchB x.from_ x.until_))) = true ∧ sameC x (on2 x) = true := by
 rw [goodC_2 hk, ← sames_2] at hg
 exact Bool.and_eq_true_iff.1 hg
theorem good_is_3 {x : CmdV} (hk : x.kind = 3) (hg : goodC x = true) : (stretchB x.from_ x.until_) = true ∧ sameC x (on3 x) = true := by
 rw [goodC_3 hk, ← sames_3] at hg
 exact Bool.and_eq_true_iff.1 hg
theorem good_is_4 {x : CmdV} (hk : x.kind = 4) (hg : goodC x = true) : (rightP x.state x.text && stretchB x.from_ x.until_) = true ∧ sameC x (on4 x) = true := by
 rw [goodC_4 hk, ← sames_4] at hg
 exact Bool.and_eq_true_iff.1 hg
theorem good_is_5 {x : CmdV} (hk : x.kind = 5) (hg : goodC x = true) : (currB x.text && (perB 2 x.pk x.py x.pi && (inB x.num 1 1099511627776 && inB x.den 1 1099511627776))) = true ∧ sameC x (on5 x) = true := by
 rw [goodC_5 hk, ← sames_5] at hg
 exact Bool.and_eq_true_iff.1 hg
theorem good_is_6 {x : CmdV} (hk : x.kind = 6) (hg : goodC x = true) : (decide (x.text.size ≤ 65536)) = true ∧ sameC x (on6 x) = true := by
 rw [goodC_6 hk, ← sames_6] at hg
 exact Bool.and_eq_true_iff.1 hg
theorem good_is_7 {x : CmdV} (hk : x.kind = 7) (hg : goodC x = true) : (inB x.num 0 100 && perB 3 x.pk x.py x.pi) = true ∧ sameC x (on7 x) = true := by
 rw [goodC_7 hk, ← sames_7] at hg
 exact Bool.and_eq_true_iff.1 hg
theorem good_is_8 {x : CmdV} (hk : x.kind = 8) (hg : goodC x = true) : (docGood (docOf x) (rightP x.country x.number) (currB x.currency)) = true ∧ sameC x (on8 x) = true := by
 rw [goodC_8 hk, ← sames_8] at hg
 exact Bool.and_eq_true_iff.1 hg
theorem good_is_9 {x : CmdV} (hk : x.kind = 9) (hg : goodC x = true) : (perB 1 x.pk x.py x.pi || perB 2 x.pk x.py x.pi) = true ∧ sameC x (on9 x) = true := by
 rw [goodC_9 hk, ← sames_9] at hg
 exact Bool.and_eq_true_iff.1 hg
theorem good_is_10 {x : CmdV} (hk : x.kind = 10) (hg : goodC x = true) : (perB 1 x.pk x.py x.pi || perB 2 x.pk x.py x.pi) = true ∧ sameC x (on10 x) = true := by
 rw [goodC_10 hk, ← sames_10] at hg
 exact Bool.and_eq_true_iff.1 hg
theorem good_is_11 {x : CmdV} (hk : x.kind = 11) (hg : goodC x = true) : (perB 3 x.pk x.py x.pi) = true ∧ sameC x (on11 x) = true := by
 rw [goodC_11 hk, ← sames_11] at hg
 exact Bool.and_eq_true_iff.1 hg
theorem fit_1 {x : CmdV} (hk : x.kind = 1) (hg : goodC x = true) : x.state.size ≤ 65536 ∧ NR x.index ∧ NR x.from_ := by
 have h := (good_is_1 hk hg).1
 try simp only [Bool.and_eq_true, Bool.or_eq_true, decide_eq_true_eq] at h
 exact ⟨mem_size h.1, in_NR h.2.1 (by omega) (by omega), in_NR h.2.2 (by omega) (by omega)⟩
theorem bytes_1 {x : CmdV} (hk : x.kind = 1) (hg : goodC x = true) : (nextS (nextS (nextS (nextS (some []) (docN 1)) (docS x.state)) (docN x.index)) (docN x.from_)) = some (encT x) := by
 have h := fit_1 hk hg
 have hn : NR (1 : Int) := ⟨by omega, by omega⟩
 unfold encT
 rw [bodyT_1 hk, hk, docN_some hn, docS_some (h.1), docN_some (h.2.1), docN_some (h.2.2)]
 simp only [next_some, List.append_assoc, List.append_nil, List.nil_append]
theorem len_1 {x : CmdV} (hk : x.kind = 1) (hg : goodC x = true) : (bodyT x).length ≤ 41000000 := by
 have h := fit_1 hk hg
 rw [bodyT_1 hk]
 have l0 := sB_len x.state
 have l1 := nB_len (h.2.1)
 have l2 := nB_len (h.2.2)
 simp only [List.length_append, List.length_nil]
 omega
theorem fit_2 {x : CmdV} (hk : x.kind = 2) (hg : goodC x = true) : x.state.size ≤ 65536 ∧ NR x.category ∧ NR x.from_ ∧ NR x.until_ ∧ NR x.bp := by
 have h := (good_is_2 hk hg).1
 try simp only [Bool.and_eq_true, Bool.or_eq_true, decide_eq_true_eq] at h
 exact ⟨mem_size h.1, in_NR h.2.1 (by omega) (by omega), (stretch_NR h.2.2.2).1, (stretch_NR h.2.2.2).2, in_NR h.2.2.1 (by omega) (by omega)⟩
theorem bytes_2 {x : CmdV} (hk : x.kind = 2) (hg : goodC x = true) : (nextS (nextS (nextS (nextS (nextS (nextS (some []) (docN 2)) (docS x.state)) (docN x.category)) (docN x.from_)) (docN x.until_)) (docN x.bp)) = some (encT x) := by
 have h := fit_2 hk hg
 have hn : NR (2 : Int) := ⟨by omega, by omega⟩
 unfold encT
 rw [bodyT_2 hk, hk, docN_some hn, docS_some (h.1), docN_some (h.2.1), docN_some (h.2.2.1), docN_some (h.2.2.2.1), docN_some (h.2.2.2.2)]
 simp only [next_some, List.append_assoc, List.append_nil, List.nil_append]
theorem len_2 {x : CmdV} (hk : x.kind = 2) (hg : goodC x = true) : (bodyT x).length ≤ 41000000 := by
 have h := fit_2 hk hg
 rw [bodyT_2 hk]
 have l0 := sB_len x.state
 have l1 := nB_len (h.2.1)
 have l2 := nB_len (h.2.2.1)
 have l3 := nB_len (h.2.2.2.1)
 have l4 := nB_len (h.2.2.2.2)
 simp only [List.length_append, List.length_nil]
 omega
theorem fit_3 {x : CmdV} (hk : x.kind = 3) (hg : goodC x = true) : NR x.from_ ∧ NR x.until_ := by
 have h := (good_is_3 hk hg).1
 try simp only [Bool.and_eq_true, Bool.or_eq_true, decide_eq_true_eq] at h
 exact ⟨(stretch_NR h).1, (stretch_NR h).2⟩
theorem bytes_3 {x : CmdV} (hk : x.kind = 3) (hg : goodC x = true) : (nextS (nextS (nextS (some []) (docN 3)) (docN x.from_)) (docN x.until_)) = some (encT x) := by
 have h := fit_3 hk hg
 have hn : NR (3 : Int) := ⟨by omega, by omega⟩
 unfold encT
 rw [bodyT_3 hk, hk, docN_some hn, docN_some (h.1), docN_some (h.2)]
 simp only [next_some, List.append_assoc, List.append_nil, List.nil_append]
theorem len_3 {x : CmdV} (hk : x.kind = 3) (hg : goodC x = true) : (bodyT x).length ≤ 41000000 := by
 have h := fit_3 hk hg
 rw [bodyT_3 hk]
 have l0 := nB_len (h.1)
 have l1 := nB_len (h.2)
 simp only [List.length_append, List.length_nil]
 omega
theorem fit_4 {x : CmdV} (hk : x.kind = 4) (hg : goodC x = true) : x.state.size ≤ 65536 ∧ x.text.size ≤ 65536 ∧ NR x.from_ ∧ NR x.until_ := by
 have h := (good_is_4 hk hg).1
 try simp only [Bool.and_eq_true, Bool.or_eq_true, decide_eq_true_eq] at h
 exact ⟨(right_size h.1).1, (right_size h.1).2, (stretch_NR h.2).1, (stretch_NR h.2).2⟩
theorem bytes_4 {x : CmdV} (hk : x.kind = 4) (hg : goodC x = true) : (nextS (nextS (nextS (nextS (nextS (some []) (docN 4)) (docS x.state)) (docS x.text)) (docN x.from_)) (docN x.until_)) = some (encT x) := by
 have h := fit_4 hk hg
 have hn : NR (4 : Int) := ⟨by omega, by omega⟩
 unfold encT
 rw [bodyT_4 hk, hk, docN_some hn, docS_some (h.1), docS_some (h.2.1), docN_some (h.2.2.1), docN_some (h.2.2.2)]
 simp only [next_some, List.append_assoc, List.append_nil, List.nil_append]
theorem len_4 {x : CmdV} (hk : x.kind = 4) (hg : goodC x = true) : (bodyT x).length ≤ 41000000 := by
 have h := fit_4 hk hg
 rw [bodyT_4 hk]
 have l0 := sB_len x.state
 have l1 := sB_len x.text
 have l2 := nB_len (h.2.2.1)
 have l3 := nB_len (h.2.2.2)
 simp only [List.length_append, List.length_nil]
 omega
theorem fit_5 {x : CmdV} (hk : x.kind = 5) (hg : goodC x = true) : x.text.size ≤ 65536 ∧ NR x.py ∧ NR x.pi ∧ NR x.num ∧ NR x.den := by
 have h := (good_is_5 hk hg).1
 try simp only [Bool.and_eq_true, Bool.or_eq_true, decide_eq_true_eq] at h
 exact ⟨curr_size h.1, (per_is h.2.1).2.1, (per_is h.2.1).2.2.1, in_NR h.2.2.1 (by omega) (by omega), in_NR h.2.2.2 (by omega) (by omega)⟩
theorem bytes_5 {x : CmdV} (hk : x.kind = 5) (hg : goodC x = true) : (nextS (nextS (nextS (nextS (nextS (nextS (some []) (docN 5)) (docS x.text)) (docN x.py)) (docN x.pi)) (docN x.num)) (docN x.den)) = some (encT x) := by
 have h := fit_5 hk hg
 have hn : NR (5 : Int) := ⟨by omega, by omega⟩
 unfold encT
 rw [bodyT_5 hk, hk, docN_some hn, docS_some (h.1), docN_some (h.2.1), docN_some (h.2.2.1), docN_some (h.2.2.2.1), docN_some (h.2.2.2.2)]
 simp only [next_some, List.append_assoc, List.append_nil, List.nil_append]
theorem len_5 {x : CmdV} (hk : x.kind = 5) (hg : goodC x = true) : (bodyT x).length ≤ 41000000 := by
 have h := fit_5 hk hg
 rw [bodyT_5 hk]
 have l0 := sB_len x.text
 have l1 := nB_len (h.2.1)
 have l2 := nB_len (h.2.2.1)
 have l3 := nB_len (h.2.2.2.1)
 have l4 := nB_len (h.2.2.2.2)
 simp only [List.length_append, List.length_nil]
 omega
theorem fit_6 {x : CmdV} (hk : x.kind = 6) (hg : goodC x = true) : x.text.size ≤ 65536 := by
 have h := (good_is_6 hk hg).1
 try simp only [Bool.and_eq_true, Bool.or_eq_true, decide_eq_true_eq] at h
 exact h
theorem bytes_6 {x : CmdV} (hk : x.kind = 6) (hg : goodC x = true) : (nextS (nextS (some []) (docN 6)) (docS x.text)) = some (encT x) := by
 have h := fit_6 hk hg
 have hn : NR (6 : Int) := ⟨by omega, by omega⟩
 unfold encT
 rw [bodyT_6 hk, hk, docN_some hn, docS_some (h)]
 simp only [next_some, List.append_assoc, List.append_nil, List.nil_append]
theorem len_6 {x : CmdV} (hk : x.kind = 6) (hg : goodC x = true) : (bodyT x).length ≤ 41000000 := by
 have h := fit_6 hk hg
 rw [bodyT_6 hk]
 have l0 := sB_len x.text
 simp only [List.length_append, List.length_nil]
 omega
theorem fit_7 {x : CmdV} (hk : x.kind = 7) (hg : goodC x = true) : NR x.py ∧ NR x.num := by
 have h := (good_is_7 hk hg).1
 try simp only [Bool.and_eq_true, Bool.or_eq_true, decide_eq_true_eq] at h
 exact ⟨(per_is h.2).2.1, in_NR h.1 (by omega) (by omega)⟩
theorem bytes_7 {x : CmdV} (hk : x.kind = 7) (hg : goodC x = true) : (nextS (nextS (nextS (some []) (docN 7)) (docN x.py)) (docN x.num)) = some (encT x) := by
 have h := fit_7 hk hg
 have hn : NR (7 : Int) := ⟨by omega, by omega⟩
 unfold encT
 rw [bodyT_7 hk, hk, docN_some hn, docN_some (h.1), docN_some (h.2)]
 simp only [next_some, List.append_assoc, List.append_nil, List.nil_append]
theorem len_7 {x : CmdV} (hk : x.kind = 7) (hg : goodC x = true) : (bodyT x).length ≤ 41000000 := by
 have h := fit_7 hk hg
 rw [bodyT_7 hk]
 have l0 := nB_len (h.1)
 have l1 := nB_len (h.2)
 simp only [List.length_append, List.length_nil]
 omega
theorem fit_8 {x : CmdV} (hk : x.kind = 8) (hg : goodC x = true) : DF (docOf x) := doc_DF (d := docOf x) (good_is_8 hk hg).1
theorem len_8 {x : CmdV} (hk : x.kind = 8) (hg : goodC x = true) : (bodyT x).length ≤ 41000000 := by rw [bodyT_8 hk]; exact docB_len (fit_8 hk hg)
theorem fit_9 {x : CmdV} (hk : x.kind = 9) (hg : goodC x = true) : NR x.pk ∧ NR x.py ∧ NR x.pi := by
 have h := (good_is_9 hk hg).1
 try simp only [Bool.and_eq_true, Bool.or_eq_true, decide_eq_true_eq] at h
 exact ⟨(per_or h).1, (per_or h).2.1, (per_or h).2.2⟩
theorem bytes_9 {x : CmdV} (hk : x.kind = 9) (hg : goodC x = true) : (nextS (nextS (nextS (nextS (some []) (docN 9)) (docN x.pk)) (docN x.py)) (docN x.pi)) = some (encT x) := by
 have h := fit_9 hk hg
 have hn : NR (9 : Int) := ⟨by omega, by omega⟩
 unfold encT
 rw [bodyT_9 hk, hk, docN_some hn, docN_some (h.1), docN_some (h.2.1), docN_some (h.2.2)]
 simp only [next_some, List.append_assoc, List.append_nil, List.nil_append]
theorem len_9 {x : CmdV} (hk : x.kind = 9) (hg : goodC x = true) : (bodyT x).length ≤ 41000000 := by
 have h := fit_9 hk hg
 rw [bodyT_9 hk]
 have l0 := nB_len (h.1)
 have l1 := nB_len (h.2.1)
 have l2 := nB_len (h.2.2)
 simp only [List.length_append, List.length_nil]
 omega
theorem fit_10 {x : CmdV} (hk : x.kind = 10) (hg : goodC x = true) : NR x.pk ∧ NR x.py ∧ NR x.pi := by
 have h := (good_is_10 hk hg).1
 try simp only [Bool.and_eq_true, Bool.or_eq_true, decide_eq_true_eq] at h
 exact ⟨(per_or h).1, (per_or h).2.1, (per_or h).2.2⟩
theorem bytes_10 {x : CmdV} (hk : x.kind = 10) (hg : goodC x = true) : (nextS (nextS (nextS (nextS (some []) (docN 10)) (docN x.pk)) (docN x.py)) (docN x.pi)) = some (encT x) := by
 have h := fit_10 hk hg
 have hn : NR (10 : Int) := ⟨by omega, by omega⟩
 unfold encT
 rw [bodyT_10 hk, hk, docN_some hn, docN_some (h.1), docN_some (h.2.1), docN_some (h.2.2)]
 simp only [next_some, List.append_assoc, List.append_nil, List.nil_append]
theorem len_10 {x : CmdV} (hk : x.kind = 10) (hg : goodC x = true) : (bodyT x).length ≤ 41000000 := by
 have h := fit_10 hk hg
 rw [bodyT_10 hk]
 have l0 := nB_len (h.1)
 have l1 := nB_len (h.2.1)
 have l2 := nB_len (h.2.2)
 simp only [List.length_append, List.length_nil]
 omega
theorem fit_11 {x : CmdV} (hk : x.kind = 11) (hg : goodC x = true) : NR x.py := by
 have h := (good_is_11 hk hg).1
 try simp only [Bool.and_eq_true, Bool.or_eq_true, decide_eq_true_eq] at h
 exact (per_is h).2.1
theorem bytes_11 {x : CmdV} (hk : x.kind = 11) (hg : goodC x = true) : (nextS (nextS (some []) (docN 11)) (docN x.py)) = some (encT x) := by
 have h := fit_11 hk hg
 have hn : NR (11 : Int) := ⟨by omega, by omega⟩
 unfold encT
 rw [bodyT_11 hk, hk, docN_some hn, docN_some (h)]
 simp only [next_some, List.append_assoc, List.append_nil, List.nil_append]
theorem len_11 {x : CmdV} (hk : x.kind = 11) (hg : goodC x = true) : (bodyT x).length ≤ 41000000 := by
 have h := fit_11 hk hg
 rw [bodyT_11 hk]
 have l0 := nB_len (h)
 simp only [List.length_append, List.length_nil]
 omega
theorem kind_in {x : CmdV} (hg : goodC x = true) : 1 ≤ x.kind ∧ x.kind ≤ 11 := by
 by_cases h : x.kind < 1 ∨ 11 < x.kind
 · rw [goodC_O h] at hg; cases hg
 · omega
theorem encT_len {x : CmdV} (hg : goodC x = true) : (encT x).length ≤ 42000000 := by
 have hk := kind_in hg
 have hb : (bodyT x).length ≤ 41000000 := by
  by_cases h1 : x.kind = 1
  · exact len_1 h1 hg
  by_cases h2 : x.kind = 2
  · exact len_2 h2 hg
  by_cases h3 : x.kind = 3
  · exact len_3 h3 hg
  by_cases h4 : x.kind = 4
  · exact len_4 h4 hg
  by_cases h5 : x.kind = 5
  · exact len_5 h5 hg
  by_cases h6 : x.kind = 6
  · exact len_6 h6 hg
  by_cases h7 : x.kind = 7
  · exact len_7 h7 hg
  by_cases h8 : x.kind = 8
  · exact len_8 h8 hg
  by_cases h9 : x.kind = 9
  · exact len_9 h9 hg
  by_cases h10 : x.kind = 10
  · exact len_10 h10 hg
  by_cases h11 : x.kind = 11
  · exact len_11 h11 hg
  omega
 have := nB_len (n := x.kind) ⟨by omega, by omega⟩
 unfold encT
 rw [List.length_append]
 omega
end Go.Proofs.YtplghpamckdklaaGreat

namespace Go.Proofs.YtplghpamckdklaaGreat
open Go.RowKit
set_option maxRecDepth 100000
set_option linter.unusedSimpArgs false
set_option linter.unusedVariables false

set_option maxHeartbeats 1000000 in
theorem encode_1 (x : CmdV) (w : World) (hx : CmdVOk w x) (hn : x.lines.length ≤ 140737488351232) (hM : MaxL w) (hg : goodC x = true) (hk : x.kind = 1) : Calls Tryz.prog 14 #[.agg (cmdA x)] w (EncP w (encT x)) :=
 encode_ok (cmdA x) (encT x) w rfl (Lib.hid (fun W hb => by have h := code_goodC x W (CmdVOk.on' hx hb) hn (hM.below hb); rw [hg] at h; exact h))
  (Lib.hid (fun W g v hb hw hB => by
   have hf := fit_1 hk hg
   have h := write_1 (cmdA x) x (w.heap.size + 1) g 0 (some []) v W hw hB (by simp) (by omega) (congrArg (fun z => some (Value.int .i64 z)) hk) rfl rfl rfl (by have := hf.1; omega) ⟨by have := (hf.2.2).1; omega, (hf.2.2).2⟩ ⟨by have := (hf.2.1).1; omega, (hf.2.1).2⟩
   rw [bytes_1 hk hg] at h
   exact h)) (by have := encT_len hg; omega)
set_option maxHeartbeats 1000000 in
theorem encode_2 (x : CmdV) (w : World) (hx : CmdVOk w x) (hn : x.lines.length ≤ 140737488351232) (hM : MaxL w) (hg : goodC x = true) (hk : x.kind = 2) : Calls Tryz.prog 14 #[.agg (cmdA x)] w (EncP w (encT x)) :=
 encode_ok (cmdA x) (encT x) w rfl (Lib.hid (fun W hb => by have h := code_goodC x W (CmdVOk.on' hx hb) hn (hM.below hb); rw [hg] at h; exact h))
  (Lib.hid (fun W g v hb hw hB => by
   have hf := fit_2 hk hg
   have h := write_2 (cmdA x) x (w.heap.size + 1) g 0 (some []) v W hw hB (by simp) (by omega) (congrArg (fun z => some (Value.int .i64 z)) hk) rfl rfl rfl rfl rfl (by have := hf.1; omega) ⟨by have := (hf.2.1).1; omega, (hf.2.1).2⟩ ⟨by have := (hf.2.2.2.2).1; omega, (hf.2.2.2.2).2⟩ ⟨by have := (hf.2.2.1).1; omega, (hf.2.2.1).2⟩ ⟨by have := (hf.2.2.2.1).1; omega, (hf.2.2.2.1).2⟩
   rw [bytes_2 hk hg] at h
   exact h)) (by have := encT_len hg; omega)
set_option maxHeartbeats 1000000 in
theorem encode_3 (x : CmdV) (w : World) (hx : CmdVOk w x) (hn : x.lines.length ≤ 140737488351232) (hM : MaxL w) (hg : goodC x = true) (hk : x.kind = 3) : Calls Tryz.prog 14 #[.agg (cmdA x)] w (EncP w (encT x)) :=
 encode_ok (cmdA x) (encT x) w rfl (Lib.hid (fun W hb => by have h := code_goodC x W (CmdVOk.on' hx hb) hn (hM.below hb); rw [hg] at h; exact h))
  (Lib.hid (fun W g v hb hw hB => by
   have hf := fit_3 hk hg
   have h := write_3 (cmdA x) x (w.heap.size + 1) g 0 (some []) v W hw hB (by simp) (by omega) (congrArg (fun z => some (Value.int .i64 z)) hk) rfl rfl ⟨by have := (hf.1).1; omega, (hf.1).2⟩ ⟨by have := (hf.2).1; omega, (hf.2).2⟩
   rw [bytes_3 hk hg] at h
   exact h)) (by have := encT_len hg; omega)
set_option maxHeartbeats 1000000 in
theorem encode_4 (x : CmdV) (w : World) (hx : CmdVOk w x) (hn : x.lines.length ≤ 140737488351232) (hM : MaxL w) (hg : goodC x = true) (hk : x.kind = 4) : Calls Tryz.prog 14 #[.agg (cmdA x)] w (EncP w (encT x)) :=
 encode_ok (cmdA x) (encT x) w rfl (Lib.hid (fun W hb => by have h := code_goodC x W (CmdVOk.on' hx hb) hn (hM.below hb); rw [hg] at h; exact h))
  (Lib.hid (fun W g v hb hw hB => by
   have hf := fit_4 hk hg
   have h := write_4 (cmdA x) x (w.heap.size + 1) g 0 (some []) v W hw hB (by simp) (by omega) (congrArg (fun z => some (Value.int .i64 z)) hk) rfl rfl rfl rfl (by have := hf.1; omega) (by have := hf.2.1; omega) ⟨by have := (hf.2.2.1).1; omega, (hf.2.2.1).2⟩ ⟨by have := (hf.2.2.2).1; omega, (hf.2.2.2).2⟩
   rw [bytes_4 hk hg] at h
   exact h)) (by have := encT_len hg; omega)
set_option maxHeartbeats 1000000 in
theorem encode_5 (x : CmdV) (w : World) (hx : CmdVOk w x) (hn : x.lines.length ≤ 140737488351232) (hM : MaxL w) (hg : goodC x = true) (hk : x.kind = 5) : Calls Tryz.prog 14 #[.agg (cmdA x)] w (EncP w (encT x)) :=
 encode_ok (cmdA x) (encT x) w rfl (Lib.hid (fun W hb => by have h := code_goodC x W (CmdVOk.on' hx hb) hn (hM.below hb); rw [hg] at h; exact h))
  (Lib.hid (fun W g v hb hw hB => by
   have hf := fit_5 hk hg
   have h := write_5 (cmdA x) x (w.heap.size + 1) g 0 (some []) v W hw hB (by simp) (by omega) (congrArg (fun z => some (Value.int .i64 z)) hk) rfl rfl rfl rfl rfl (by have := hf.1; omega) ⟨by have := (hf.2.2.2.1).1; omega, (hf.2.2.2.1).2⟩ ⟨by have := (hf.2.2.2.2).1; omega, (hf.2.2.2.2).2⟩ ⟨by have := (hf.2.1).1; omega, (hf.2.1).2⟩ ⟨by have := (hf.2.2.1).1; omega, (hf.2.2.1).2⟩
   rw [bytes_5 hk hg] at h
   exact h)) (by have := encT_len hg; omega)
set_option maxHeartbeats 1000000 in
theorem encode_6 (x : CmdV) (w : World) (hx : CmdVOk w x) (hn : x.lines.length ≤ 140737488351232) (hM : MaxL w) (hg : goodC x = true) (hk : x.kind = 6) : Calls Tryz.prog 14 #[.agg (cmdA x)] w (EncP w (encT x)) :=
 encode_ok (cmdA x) (encT x) w rfl (Lib.hid (fun W hb => by have h := code_goodC x W (CmdVOk.on' hx hb) hn (hM.below hb); rw [hg] at h; exact h))
  (Lib.hid (fun W g v hb hw hB => by
   have hf := fit_6 hk hg
   have h := write_6 (cmdA x) x (w.heap.size + 1) g 0 (some []) v W hw hB (by simp) (by omega) (congrArg (fun z => some (Value.int .i64 z)) hk) rfl (by have := hf; omega)
   rw [bytes_6 hk hg] at h
   exact h)) (by have := encT_len hg; omega)
set_option maxHeartbeats 1000000 in
theorem encode_7 (x : CmdV) (w : World) (hx : CmdVOk w x) (hn : x.lines.length ≤ 140737488351232) (hM : MaxL w) (hg : goodC x = true) (hk : x.kind = 7) : Calls Tryz.prog 14 #[.agg (cmdA x)] w (EncP w (encT x)) :=
 encode_ok (cmdA x) (encT x) w rfl (Lib.hid (fun W hb => by have h := code_goodC x W (CmdVOk.on' hx hb) hn (hM.below hb); rw [hg] at h; exact h))
  (Lib.hid (fun W g v hb hw hB => by
   have hf := fit_7 hk hg
   have h := write_7 (cmdA x) x (w.heap.size + 1) g 0 (some []) v W hw hB (by simp) (by omega) (congrArg (fun z => some (Value.int .i64 z)) hk) rfl rfl ⟨by have := (hf.2).1; omega, (hf.2).2⟩ ⟨by have := (hf.1).1; omega, (hf.1).2⟩
   rw [bytes_7 hk hg] at h
   exact h)) (by have := encT_len hg; omega)
set_option maxHeartbeats 1000000 in
theorem encode_8 (x : CmdV) (w : World) (hx : CmdVOk w x) (hn : x.lines.length ≤ 140737488351232) (hM : MaxL w) (hg : goodC x = true) (hk : x.kind = 8) : Calls Tryz.prog 14 #[.agg (cmdA x)] w (EncP w (encT x)) :=
 encode_ok (cmdA x) (encT x) w rfl (Lib.hid (fun W hb => by have h := code_goodC x W (CmdVOk.on' hx hb) hn (hM.below hb); rw [hg] at h; exact h))
  (Lib.hid (fun W g v hb hw hB => write_8 (cmdA x) (docOf x) (w.heap.size + 1) g (some []) (some (encT x)) v W hw hB (congrArg (fun z => some (Value.int .i64 z)) hk) ⟨rfl, rfl, rfl, rfl, rfl, rfl, rfl, rfl, rfl⟩ (by simp)
   (Lib.hid (fun W2 v2 hb2 hw2 hB2 => by
    have hf := fit_8 hk hg
    have h8 : nextS (some []) (docN 8) = some (nB 8) := by rw [docN_some (n := 8) ⟨by omega, by omega⟩]; rfl
    have hl8 := nB_len (n := 8) ⟨by omega, by omega⟩
    have hx2 := write_doc (docOf x) (w.heap.size + 1) g 70000 (nextS (some []) (docN 8)) v2 W2 hw2 hB2 (by rw [h8]; exact hl8) (by omega) (by have := hf.2.2.2.2.2.2.1; omega) hx.2.2.2.2.2.2.2.2.2.1 (by have := hf.1; omega) (by have := hf.2.1; omega) ⟨by have := hf.2.2.1.1; omega, hf.2.2.1.2, by have := hf.2.2.2.1; omega, by have := hf.2.2.2.2.1; omega, by have := hf.2.2.2.2.2.1; omega⟩
     (Lib.hid (fun W3 hb3 => hx.2.2.2.2.2.2.2.1.on (hb.trans ((hb2.trans hb3).mono (Nat.le_succ _)))))
     (Lib.hid (fun l hl => by
      have h := hf.2.2.2.2.2.2.2 l hl
      obtain ⟨h1, h2, h3, h4, h5, h6, h7⟩ := h
      exact ⟨⟨by have := h1.1; omega, h1.2⟩, ⟨by have := h2.1; omega, h2.2⟩, ⟨by have := h6.1; omega, h6.2⟩, ⟨by have := h7.1; omega, h7.2⟩, by omega, by omega, by omega⟩))
    have e : linesT (headT (nextS (some []) (docN 8)) (docOf x)) (docOf x).lines = some (encT x) := by
     rw [h8, docT_doc hf]
     unfold encT
     rw [bodyT_8 hk, hk]
     rfl
    rw [e] at hx2
    exact hx2)))) (by have := encT_len hg; omega)
set_option maxHeartbeats 1000000 in
theorem encode_9 (x : CmdV) (w : World) (hx : CmdVOk w x) (hn : x.lines.length ≤ 140737488351232) (hM : MaxL w) (hg : goodC x = true) (hk : x.kind = 9) : Calls Tryz.prog 14 #[.agg (cmdA x)] w (EncP w (encT x)) :=
 encode_ok (cmdA x) (encT x) w rfl (Lib.hid (fun W hb => by have h := code_goodC x W (CmdVOk.on' hx hb) hn (hM.below hb); rw [hg] at h; exact h))
  (Lib.hid (fun W g v hb hw hB => by
   have hf := fit_9 hk hg
   have h := write_9 (cmdA x) x (w.heap.size + 1) g 0 (some []) v W hw hB (by simp) (by omega) (congrArg (fun z => some (Value.int .i64 z)) hk) rfl rfl rfl ⟨by have := (hf.1).1; omega, (hf.1).2⟩ ⟨by have := (hf.2.1).1; omega, (hf.2.1).2⟩ ⟨by have := (hf.2.2).1; omega, (hf.2.2).2⟩
   rw [bytes_9 hk hg] at h
   exact h)) (by have := encT_len hg; omega)
set_option maxHeartbeats 1000000 in
theorem encode_10 (x : CmdV) (w : World) (hx : CmdVOk w x) (hn : x.lines.length ≤ 140737488351232) (hM : MaxL w) (hg : goodC x = true) (hk : x.kind = 10) : Calls Tryz.prog 14 #[.agg (cmdA x)] w (EncP w (encT x)) :=
 encode_ok (cmdA x) (encT x) w rfl (Lib.hid (fun W hb => by have h := code_goodC x W (CmdVOk.on' hx hb) hn (hM.below hb); rw [hg] at h; exact h))
  (Lib.hid (fun W g v hb hw hB => by
   have hf := fit_10 hk hg
   have h := write_10 (cmdA x) x (w.heap.size + 1) g 0 (some []) v W hw hB (by simp) (by omega) (congrArg (fun z => some (Value.int .i64 z)) hk) rfl rfl rfl ⟨by have := (hf.1).1; omega, (hf.1).2⟩ ⟨by have := (hf.2.1).1; omega, (hf.2.1).2⟩ ⟨by have := (hf.2.2).1; omega, (hf.2.2).2⟩
   rw [bytes_10 hk hg] at h
   exact h)) (by have := encT_len hg; omega)
set_option maxHeartbeats 1000000 in
theorem encode_11 (x : CmdV) (w : World) (hx : CmdVOk w x) (hn : x.lines.length ≤ 140737488351232) (hM : MaxL w) (hg : goodC x = true) (hk : x.kind = 11) : Calls Tryz.prog 14 #[.agg (cmdA x)] w (EncP w (encT x)) :=
 encode_ok (cmdA x) (encT x) w rfl (Lib.hid (fun W hb => by have h := code_goodC x W (CmdVOk.on' hx hb) hn (hM.below hb); rw [hg] at h; exact h))
  (Lib.hid (fun W g v hb hw hB => by
   have hf := (good_is_11 hk hg).1
   unfold perB Civ.good at hf
   simp only [Bool.and_eq_true, decide_eq_true_eq, beq_iff_eq] at hf
   have hl := nB_len (n := 11) ⟨by omega, by omega⟩
   have h := write_11 (cmdA x) x.py (w.heap.size + 1) g (some []) v W hw hB (congrArg (fun z => some (Value.int .i64 z)) hk) rfl (by omega) (by omega) (by simp) (by rw [docN_some (n := 11) ⟨by omega, by omega⟩]; simp only [next_some, List.nil_append, Option.getD_some]; omega)
   rw [bytes_11 hk hg] at h
   exact h)) (by have := encT_len hg; omega)
theorem encode_good (x : CmdV) (w : World) (hx : CmdVOk w x) (hn : x.lines.length ≤ 140737488351232) (hM : MaxL w) (hg : goodC x = true) : Calls Tryz.prog 14 #[.agg (cmdA x)] w (EncP w (encT x)) := by
 have hk := kind_in hg
 by_cases h1 : x.kind = 1
 · exact encode_1 x w hx hn hM hg h1
 by_cases h2 : x.kind = 2
 · exact encode_2 x w hx hn hM hg h2
 by_cases h3 : x.kind = 3
 · exact encode_3 x w hx hn hM hg h3
 by_cases h4 : x.kind = 4
 · exact encode_4 x w hx hn hM hg h4
 by_cases h5 : x.kind = 5
 · exact encode_5 x w hx hn hM hg h5
 by_cases h6 : x.kind = 6
 · exact encode_6 x w hx hn hM hg h6
 by_cases h7 : x.kind = 7
 · exact encode_7 x w hx hn hM hg h7
 by_cases h8 : x.kind = 8
 · exact encode_8 x w hx hn hM hg h8
 by_cases h9 : x.kind = 9
 · exact encode_9 x w hx hn hM hg h9
 by_cases h10 : x.kind = 10
 · exact encode_10 x w hx hn hM hg h10
 by_cases h11 : x.kind = 11
 · exact encode_11 x w hx hn hM hg h11
 omega
set_option maxHeartbeats 1000000 in
theorem encode_not (cs : Array Value) (w : World) (hs : cs.size = 22) (HGd : Hid (∀ W, Below w.heap.size w W → Calls Tryz.prog 8 #[.agg cs] W fun e w1 => e = .returned (.bool false) ∧ Below W.heap.size W w1)) : Calls Tryz.prog 14 #[.agg cs] w fun e w1 => e = .returned (.tuple #[.slice none 0 0, .int .i64 2]) ∧ Below w.heap.size w w1 := by
 have HX := Lib.hid (heap_alloc_new w (.cells cs 28))
 have HB0 := Lib.hid (below_alloc w (.cells cs 28))
 have HI := Lib.hid (cmd_info hs)
 clear hs
 go_enter Tryz.func14, Tryz.ntmps14
 go_wp2_with ((with_reducible refine wpList_load_row (o := ⟨some 5, _, _, _, _, _⟩) ?a1 28 (.tmp 1) ?a2 w.heap.size ?a3 28 cs (0, 0) _ HX.out Tryz.underlying28 ?a4 HI.out ?_); (case a1 => rfl); (case a2 => rfl); (case a3 => rfl); (case a4 => rfl); refine Stop.out ?_)
 unfold Stop
 go_wp2_with (go_at_call 8; refine (HGd.out _ HB0.out).mono ?_; rintro e w1 ⟨rfl, hb⟩; have HB1 := Lib.hid (below_then HB0.out hb); clear hb; refine Stop.out ?_)
 unfold Stop
 go_wp2
 go_ret2
 exact ⟨rfl, HB1.out⟩
end Go.Proofs.YtplghpamckdklaaGreat

namespace Go.Proofs.YtplghpamckdklaaGreat
open Go.RowKit Go.ChangeShapes
set_option maxRecDepth 100000
set_option linter.unusedSimpArgs false
set_option linter.unusedVariables false

def putAt (cs : Array Value) (i : Nat) (us : List Value) : Array Value := (cs.toList.take i ++ us ++ cs.toList.drop (i + us.length)).toArray
theorem putAt_size {cs : Array Value} {i : Nat} {us : List Value} (h : i + us.length ≤ cs.size) : (putAt cs i us).size = cs.size := by
 unfold putAt
 simp only [List.size_toArray, List.length_append, List.length_take, List.length_drop, Array.length_toList]
 omega
theorem wp_store_part {P : Program} {o : Oper} {a : Act} {w : World} {K : Act → World → Prop} {Q : Exit → Act → World → Prop} (T : TypeId) (x y : Operand) (ho : o.op = .store T x y) (g i : Nat) (hx : a.eval x = .pointer (some ⟨g, i, none⟩)) (v : Value) (us : List Value) (n : Nat)
 (hsz : (P.info? T).map (·.size) = some n) (hn : us.length = n) (hu : v.cells = us.toArray) (h1 : ∀ u ∈ us, u.oneCell' = true) (hy : a.eval y = v) (cs : Array Value) (t : TypeId) (hg : w.heap[g]? = some (.cells cs t (0, 0))) (hi : i + us.length ≤ cs.size)
 (h : K (a.put o.dst undef) (w.setRow g (putAt cs i us))) : o.wp P a w K Q := by
 subst hn
 have hst := run_storeCells_at P g i t us 0 cs w hg (by simpa using hi) h1
 simp only [Nat.add_zero] at hst
 have hs : (sizeOf T).run P w = .ok us.length w := by
  cases hq : P.info? T with
  | none => simp [hq] at hsz
  | some i =>
    have hz : i.size = us.length := by simpa [hq] using hsz
    simp [sizeOf, typeInfo, hq, hz]
 have e2 : (us.toArray : Array Value).size = us.length := by simp
 have e3 : (us.toArray : Array Value).toList = us := by simp
 unfold Oper.wp execOp
 simp only [ho, hx, hy, Instr.storeAt, Instr.sureAddr, Sem.run_bind, Sem.run_pure, Result.andThen_ok, storeVar, hu, hs, e2, e3, ne_eq, not_true_eq_false, if_false]
 rw [hst]
 exact h
theorem wpList_store_part {P : Program} {ops : Array Oper} {rest : List Oper} {o : Oper} {a : Act} {w : World} {Q : Exit → Act → World → Prop} (hgd : o.guard = none) (T : TypeId) (x y : Operand) (ho : o.op = .store T x y) (g i : Nat) (hx : a.eval x = .pointer (some ⟨g, i, none⟩)) (v : Value) (us : List Value) (n : Nat)
 (hsz : (P.info? T).map (·.size) = some n) (hn : us.length = n) (hu : v.cells = us.toArray) (h1 : ∀ u ∈ us, u.oneCell' = true) (hy : a.eval y = v) (cs : Array Value) (t : TypeId) (hg : w.heap[g]? = some (.cells cs t (0, 0))) (hi : i + us.length ≤ cs.size)
 (h : wpList P ops Q rest (a.put o.dst undef) (w.setRow g (putAt cs i us))) : wpList P ops Q (o :: rest) a w :=
 wpList_plain hgd fun _ hK => wp_store_part T x y ho g i hx v us n hsz hn hu h1 hy cs t hg hi (hK _ _ h)
theorem only_setRow (w : World) (g : Nat) (cs : Array Value) : Only w (w.setRow g cs) g := ⟨rfl, rfl, rfl, by simp [World.setRow], fun k _ hk => setRow_other w g k cs hk⟩
theorem RS.far {w0 w w1 : World} {g b : Nat} {s : Bool × Text} (h : RS w0 w g s) (hS : Only w w1 b) (hb : w0.heap.size ≤ b) : RS w0 w1 g s := by
 obtain ⟨⟨A, c, hh, h1, h2, h3, h4, h5⟩, hO, hgl⟩ := h
 refine ⟨⟨A, c, (hS.block g (heapLt hh) (by omega)).trans hh, h1, h2, h3.only hS (fun a e => ?_), h4, h5⟩, ⟨hS.os.trans hO.os, hS.tape.trans hO.tape, hS.output.trans hO.output, Nat.le_trans hO.size hS.size, fun k hk hn => (hS.block k (Nat.lt_of_lt_of_le hk hO.size) (by omega)).trans (hO.block k hk hn)⟩, hgl⟩
 have := h5 a e
 omega
structure RC (w0 w : World) (g : Nat) (s : Bool × Text) (b : Nat) (cs : Array Value) : Prop where
 rs : RS w0 w g s
 box : w.heap[b]? = some (.cells cs 28 (0, 0))
 far : w0.heap.size ≤ b
theorem RC.start {w0 w : World} {g : Nat} {s : Bool × Text} {cs : Array Value} (h : RS w0 w g s) : RC w0 (w.alloc (.cells cs 28)) g s w.heap.size cs := ⟨h.on (below_alloc _ _), heap_alloc_new w _, h.2.1.size⟩
theorem RC.read {w0 w w1 : World} {g b : Nat} {s s1} {cs} (h : RC w0 w g s b cs) (hr : RS w0 w1 g s1) (ho : Only w w1 g) : RC w0 w1 g s1 b cs :=
 ⟨hr, (ho.block b (heapLt h.box) (by have := h.rs.2.2; have := h.far; omega)).trans h.box, h.far⟩
theorem RC.put {w0 w : World} {g b : Nat} {s} {cs} (h : RC w0 w g s b cs) (cs1 : Array Value) : RC w0 (w.setRow b cs1) g s b cs1 :=
 ⟨h.rs.far (only_setRow w b cs1) h.far, setRow_heap w b cs cs1 _ _ h.box, h.far⟩
theorem RC.below {w0 w : World} {g b : Nat} {s} {cs} (h : RC w0 w g s b cs) (k : Nat) (hk : k < w0.heap.size) (hn : k ≠ g) : w.heap[k]? = w0.heap[k]? := h.rs.2.1.block k hk hn
theorem RC.num {w0 w : World} {g b : Nat} {s} {cs} (h : RC w0 w g s b cs) :
 Calls Tryz.prog 73 #[.pointer (some ⟨g, 0, none⟩)] w fun e w1 => e = .returned (.int .i64 (numV s)) ∧ RC w0 w1 g (numS s) b cs :=
 h.rs.num.mono fun e w1 hg => ⟨hg.1, h.read hg.2.1 hg.2.2⟩
theorem RC.text {w0 w : World} {g b : Nat} {s} {cs} (h : RC w0 w g s b cs) :
 Calls Tryz.prog 74 #[.pointer (some ⟨g, 0, none⟩)] w fun e w1 => e = .returned (.string (textV s)) ∧ RC w0 w1 g (textS s) b cs :=
 h.rs.text.mono fun e w1 hg => ⟨hg.1, h.read hg.2.1 hg.2.2⟩
theorem RC.flag {w0 w : World} {g b : Nat} {s} {cs} (h : RC w0 w g s b cs) :
 Calls Tryz.prog 101 #[.pointer (some ⟨g, 0, none⟩)] w fun e w1 => e = .returned (.bool (flagV s)) ∧ RC w0 w1 g (flagS s) b cs :=
 h.rs.flag.mono fun e w1 hg => ⟨hg.1, h.read hg.2.1 hg.2.2⟩
def kindC (k : Int) : Array Value := #[.int .i64 k, .string ⟨#[]⟩, .string ⟨#[]⟩, .int .i64 0, .int .i64 0, .int .i64 0, .int .i64 0, .int .i64 0, .int .i64 0, .int .i64 0, .int .i64 0, .int .i64 0, .int .i64 0, .string ⟨#[]⟩, .bool false, .bool false, .string ⟨#[]⟩, .int .i64 0, .string ⟨#[]⟩, .string ⟨#[]⟩, .string ⟨#[]⟩, .slice none 0 0]
theorem kindC_size (k : Int) : (kindC k).size = 22 := rfl
end Go.Proofs.YtplghpamckdklaaGreat
