/- A sector of one byte, made. The document's own disk: read, fused, powered. The chapter's example of a disk. -/
import Derived.Test.YtfjejiapafdgeaaJ3
import Derived.Test.YtfjejiapafdgeaaJ9
import Derived.Laws.ResultCell
import Derived.Deep.MidRow
namespace Go.Proofs.Ytfjejiapafdgeaa
open Go.RowKit
set_option maxRecDepth 100000

def fillT (b : UInt8) : Text := List.replicate 64 b
theorem fillT_len (b : UInt8) : (fillT b).length = 64 := List.length_replicate
set_option maxHeartbeats 1000000 in
theorem code_fill (b : UInt8) (w : World) : Calls Try.prog 30 #[.int .u8 b.toNat] w (ToldF w (fillT b)) := by
  obtain ⟨X, hX⟩ : ∃ X : Int, X = (b.toNat : Int) := ⟨_, rfl⟩
  have HX := Lib.hid hX
  rw [← hX]
  clear hX
  go_enter Try.func30, Try.ntmps30
  go_wp2
  go_loopw [3, 4] (fun v i wr => ∃ k : Nat, k ≤ 64 ∧ i = .int .i64 k ∧ (∃ A n c, v = .slice A n c) ∧ Hid (wr.ownsRow w.heap.size 5 1 v (List.replicate k b).length ((List.replicate k b).map cellOf)) ∧ Hid (Below w.heap.size w wr)) (fun _ i _ => 64 - (intOf i).toNat)
  case atStart => exact ⟨0, by omega, rfl, ⟨_, _, _, rfl⟩, Lib.hid (World.ownsRow_nil _ _ _ _), Lib.hid (Below.refl _ _)⟩
  case round =>
    obtain ⟨k, hk, rfl, ⟨A, n, c, rfl⟩, HO, HB⟩ := hrel
    by_cases hlt : k < 64
    · have hlt' : (k : Int) < 64 := by omega
      go_wp2_with (refine wpList_append_own_text (o := ⟨some 9, _, _, _, _, _⟩) rfl _ _ rfl rfl w.heap.size w _ (List.replicate k b) [b] (List.replicate (k + 1) b) rfl ?o1 (some ⟨wr.heap.size, 0, none⟩) 1 rfl ?o2 ?o3 ?o4 ?o5 ?o6 ?o7 ?_; (case o1 => exact own_below HO.out ((Below.refl _ _).alloc (Nat.le_refl _) _)); (case o2 => exact txt_page (l := [b]) (t := 5) (fr := (0, 0)) (by rw [HX.out]; exact heap_alloc_new wr _)); (case o3 => simp); (case o4 => simp; omega); (case o5 => exact HB.out.alloc HB.out.size _); (case o6 => exact Nat.le_trans HB.out.size (by simp)); (case o7 => rw [List.replicate_succ']); intro v2 w2 hown2 hb2 hv2; obtain ⟨A2, n2, c2, rfl⟩ := slice_of_own hown2; have HO2 := Lib.hid hown2; have HB2 := Lib.hid hb2; clear hown2 hb2 hv2)
      go_roundw
      case rel => exact ⟨k + 1, by omega, by go_num, ⟨_, _, _, rfl⟩, HO2, HB2⟩
      case measure => simp [intOf]; omega
    · obtain rfl : k = 64 := by omega
      obtain ⟨g, c', hv, hc, hm, ht, _⟩ := own_more HO.out (by simp)
      have HV := Lib.hid hv
      have HR := Lib.hid (And.intro hc (And.intro hm ht))
      clear hv hc hm ht
      go_wp2
      go_ret
      exact ⟨g, c', congrArg Ending.returned HV.out, HR.out.1, HR.out.2.1, HR.out.2.2, HB.out⟩
/-- sixty-four bytes told -/
def Told64 (w : World) (T : Text) (e : Ending) (w' : World) : Prop := ∃ g c, e = .returned (.slice (some ⟨g, 0, none⟩) 64 c) ∧ 64 ≤ c ∧ Txt w' (some ⟨g, 0, none⟩) T ∧ Below w.heap.size w w'
theorem code_fill64 (b : UInt8) (X : Int) (hX : X = (b.toNat : Int)) (w : World) : Calls Try.prog 30 #[.int .u8 X] w (Told64 w (fillT b)) := by
  subst hX
  refine (code_fill b w).mono ?_
  rintro e w' ⟨g, c, h1, h2, _, h3, h4⟩
  rw [fillT_len] at h1 h2
  exact ⟨g, c, h1, h2, h3, h4⟩
end Go.Proofs.Ytfjejiapafdgeaa

namespace Go.Proofs.Ytfjejiapafdgeaa
open Go.RowKit
set_option maxRecDepth 100000

/-- a row of texts, in a block of its own -/
def Pgs (w : World) (g : Nat) (L : List ByteArray) : Prop := g < w.heap.size ∧ ∀ i (h : i < L.length), w.cell? ⟨g, i, none⟩ = some (.string L[i])
theorem Pgs.below {w w' : World} {g : Nat} {L : List ByteArray} (h : Pgs w g L) (hb : Below w.heap.size w w') : Pgs w' g L :=
  ⟨Nat.lt_of_lt_of_le h.1 hb.size, fun i hi => (hb.cell h.1).trans (h.2 i hi)⟩
def pagesL (d : DiskV) : List ByteArray := (List.range d.many).map fun i => ⟨(d.S i).toArray⟩
theorem pagesL_len (d : DiskV) : (pagesL d).length = d.many := by simp [pagesL]
theorem pagesL_at (d : DiskV) (i : Nat) (h : i < (pagesL d).length) : (pagesL d)[i] = ⟨(d.S i).toArray⟩ := by simp [pagesL]
def aftR (d : DiskV) : Int := if d.set = true then d.after else -1
def refV (g c : Nat) (tr : Int) (d : DiskV) : Value := .agg #[.slice (some ⟨g, 0, none⟩) d.many c, .int .i64 (aftR d), .int .i64 tr, .bool d.dead, .int .i64 d.writes]
/-- a disk of the document's, the same -/
def RefIs (w : World) (g c : Nat) (tr : Int) (d : DiskV) : Prop := Pgs w g (pagesL d) ∧ d.many ≤ c ∧ c ≤ maxLen ∧ (d.set = true → tr = d.torn)
theorem RefIs.below {w w' : World} {g c : Nat} {tr : Int} {d : DiskV} (h : RefIs w g c tr d) (hb : Below w.heap.size w w') : RefIs w' g c tr d := ⟨h.1.below hb, h.2⟩

/-- the bytes that a read tells -/
def readS (d : DiskV) (i : Int) : ByteArray := if reachV d i = 0 then ⟨(d.S i.toNat).toArray⟩ else ⟨#[]⟩
theorem readS_no {d : DiskV} {i : Int} (h : reachV d i ≠ 0) : readS d i = ⟨#[]⟩ := if_neg h
theorem readS_yes {d : DiskV} {i : Int} (h : reachV d i = 0) : readS d i = ⟨(d.S i.toNat).toArray⟩ := if_pos h
theorem ref_read (w : World) (g c : Nat) (tr : Int) (d : DiskV) (i : Int) (h : RefIs w g c tr d) :
    Calls Try.prog 67 #[refV g c tr d, .int .i64 i] w fun e w' => e = .returned (.tuple #[.string (readS d i), .int .i64 (reachV d i)]) ∧ Below w.heap.size w w' := by
  have HB : Hid (∀ x, Below w.heap.size w (w.alloc x)) := Lib.hid (fun x => (Below.refl _ w).alloc (Nat.le_refl _) x)
  obtain ⟨m, hm⟩ : ∃ m : Int, m = (d.many : Int) := ⟨_, rfl⟩
  have HR : Hid (reachV d i = if d.dead = true then 32 else if i < 0 ∨ m ≤ i then 30 else 0) := Lib.hid (by rw [hm]; rfl)
  unfold refV
  by_cases hd : d.dead = true
  · rw [hd]
    have HR1 : Hid (reachV d i = 32) := Lib.hid (by rw [HR.out, if_pos hd])
    clear h hm hd
    generalize aftR d = af
    go_enter Try.func67, Try.ntmps67
    go_wp2
    go_ret2
    exact ⟨by rw [readS_no (by rw [HR1.out]; decide), HR1.out]; rfl, HB.out _⟩
  · obtain hd : d.dead = false := by simpa using hd
    rw [hd]
    by_cases h1 : i < 0 ∨ m ≤ i
    · have HR1 : Hid (reachV d i = 30) := Lib.hid (by rw [HR.out, if_neg (by simp [hd]), if_pos h1])
      clear h hd
      generalize aftR d = af
      rcases h1 with h1 | h1
      · clear hm
        go_enter Try.func67, Try.ntmps67
        go_wp2
        go_ret2
        exact ⟨by rw [readS_no (by rw [HR1.out]; decide), HR1.out]; rfl, HB.out _⟩
      · have h2 : 0 ≤ i := by omega
        rw [hm] at h1
        clear hm
        go_enter Try.func67, Try.ntmps67
        go_wp2
        go_ret2
        exact ⟨by rw [readS_no (by rw [HR1.out]; decide), HR1.out]; rfl, HB.out _⟩
    · have HR1 : Hid (reachV d i = 0) := Lib.hid (by rw [HR.out, if_neg (by simp [hd]), if_neg h1])
      obtain ⟨k, rfl⟩ : ∃ k : Nat, i = (k : Int) := ⟨i.toNat, by omega⟩
      have hk : k < d.many := by omega
      have hk' : (k : Int) < (d.many : Int) := by omega
      have hc := h.1.2 k (by rw [pagesL_len]; exact hk)
      rw [pagesL_at] at hc
      have hc2 : ∀ x, (w.alloc x).cell? ⟨g, k, none⟩ = some (.string ⟨(d.S k).toArray⟩) := fun x => (((Below.refl w.heap.size w).alloc (Nat.le_refl _) x).cell h.1.1).trans hc
      obtain ⟨s, hs⟩ : ∃ s : ByteArray, s = ⟨(d.S k).toArray⟩ := ⟨_, rfl⟩
      rw [← hs] at hc2
      have HS := Lib.hid hs
      clear h hd hm h1 hc hs
      generalize aftR d = af
      go_enter Try.func67, Try.ntmps67
      go_wp2
      go_ret2
      exact ⟨by rw [readS_yes HR1.out, HR1.out, Int.toNat_natCast, ← HS.out]; rfl, HB.out _⟩

theorem results_cell_of {fn : Func} {p : Tmp} {ty : TypeId} (h : fn.results = #[.cell p ty]) (tmps : Array Value) (W : World) (g : Nat) (v : Value) (hp : tmps.getD p undef = .pointer (some ⟨g, 0, none⟩)) (hr : (loadVar ty ⟨g, 0, none⟩).run Try.prog W = .ok v W) :
    (results fn tmps).run Try.prog W = .ok v W := by
  have hp' : tmps[p]?.getD undef = .pointer (some ⟨g, 0, none⟩) := by simpa [Array.getD_eq_getD_getElem?] using hp
  have ha : (asAddr (.pointer (some ⟨g, 0, none⟩))).run Try.prog W = .ok ⟨g, 0, none⟩ W := by simp [asAddr, go_sem]
  simp only [results, h]
  simp [Sem.run_bind, Result.andThen, hp', ha, hr]
theorem results_cell_of2 {fn : Func} {p u : Tmp} {ty : TypeId} (h : fn.results = #[.cell p ty, .tmp u]) (tmps : Array Value) (W : World) (g : Nat) (v x : Value) (hp : tmps.getD p undef = .pointer (some ⟨g, 0, none⟩)) (hx : tmps.getD u undef = x) (hr : (loadVar ty ⟨g, 0, none⟩).run Try.prog W = .ok v W) :
    (results fn tmps).run Try.prog W = .ok (.tuple #[v, x]) W := by
  have ha : (asAddr (.pointer (some ⟨g, 0, none⟩))).run Try.prog W = .ok ⟨g, 0, none⟩ W := by simp [asAddr, go_sem]
  rw [results_cell_tmp h, hp, ha, Result.andThen_ok, hr, Result.andThen_ok, hx]
theorem load_ref (w : World) (g : Nat) (cs : List Value) (hl : cs.length = 5) (t : TypeId) (fr : Nat × Nat) (hg : w.heap[g]? = some (.cells cs.toArray t fr)) : (loadVar 28 ⟨g, 0, none⟩).run Try.prog w = .ok (.agg cs.toArray) w := by
  have hi : (Try.prog.info? 28).map (·.size) = some 5 := by kernel_rfl
  refine run_loadVar_mid w g 0 _ cs _ ?_ Try.underlying28 rfl (by rw [hi, hl])
  have := World.rangeAt_of_block hg 0 5
  have e : (cs.toArray.extract 0 (0 + 5)).toList = cs := by
    simp only [Nat.zero_add, List.extract_toArray, List.extract_eq_take_drop, List.drop_zero, Nat.sub_zero]
    exact List.take_of_length_le (by omega)
  rwa [e] at this
def refC (g c m : Nat) (af tr : Int) (dead : Bool) (wr : Int) : List Value := [.slice (some ⟨g, 0, none⟩) m c, .int .i64 af, .int .i64 tr, .bool dead, .int .i64 wr]

theorem ref_fuse (w : World) (g c : Nat) (tr : Int) (d : DiskV) (after torn : Int) (h : RefIs w g c tr d) (hok : 0 ≤ after ∧ 0 ≤ torn ∧ torn ≤ 64) :
    Calls Try.prog 21 #[refV g c tr d, .int .i64 after, .int .i64 torn] w fun e w' => e = .returned (.tuple #[refV g c torn { d with set := true, after := after, torn := torn }, .int .i64 0]) ∧ RefIs w' g c torn { d with set := true, after := after, torn := torn } ∧ Below w.heap.size w w' := by
  have HF : Hid (∀ w', Below w.heap.size w w' → RefIs w' g c torn { d with set := true, after := after, torn := torn } ∧ Below w.heap.size w w') := Lib.hid (fun w' hb => ⟨⟨h.1.below hb, h.2.1, h.2.2.1, fun _ => rfl⟩, hb⟩)
  have HE : Hid (Value.agg (refC g c d.many after torn d.dead d.writes).toArray = refV g c torn { d with set := true, after := after, torn := torn }) := Lib.hid (by simp [refC, refV, aftR])
  obtain ⟨o1, o2, o3⟩ := hok
  unfold refV
  clear h
  generalize aftR d = af
  go_enter Try.func21, Try.ntmps21
  go_wp2
  have hb1 := heap_alloc_new w (.cells (refC g c d.many after torn d.dead d.writes).toArray 28)
  have hb2 := heap_alloc_new (w.alloc (.cells (refC g c d.many after torn d.dead d.writes).toArray 28)) (.cells (refC g c d.many after torn d.dead d.writes).toArray 28)
  rw [World.size_alloc] at hb2
  refine bodyPost_ret (results_cell_of2 rfl _ _ (w.heap.size + 1) _ _ rfl rfl (load_ref _ _ _ rfl _ _ hb2)) rfl ⟨?_, HF.out _ ?_⟩
  · rw [HE.out]; rfl
  · exact ((Below.refl _ w).alloc (Nat.le_refl _) _).alloc (by simp) _
theorem ref_fuse_bad (w : World) (g c : Nat) (tr : Int) (d : DiskV) (after torn : Int) (hok : after < 0 ∨ (0 ≤ after ∧ torn < 0) ∨ (0 ≤ after ∧ 0 ≤ torn ∧ 64 < torn)) :
    Calls Try.prog 21 #[refV g c tr d, .int .i64 after, .int .i64 torn] w fun e w' => e = .returned (.tuple #[refV g c tr d, .int .i64 2]) ∧ Below w.heap.size w w' := by
  have HE : Hid (Value.agg (refC g c d.many (aftR d) tr d.dead d.writes).toArray = refV g c tr d) := Lib.hid (by simp [refC, refV])
  unfold refV at *
  generalize aftR d = af at *
  have hb2 : Hid (((w.alloc (.cells (refC g c d.many af tr d.dead d.writes).toArray 28)).alloc (.cells (refC g c d.many af tr d.dead d.writes).toArray 28)).heap[w.heap.size + 1]? = some (.cells (refC g c d.many af tr d.dead d.writes).toArray 28 (0, 0))) := Lib.hid (by
    have hb2 := heap_alloc_new (w.alloc (.cells (refC g c d.many af tr d.dead d.writes).toArray 28)) (.cells (refC g c d.many af tr d.dead d.writes).toArray 28)
    rw [World.size_alloc] at hb2
    exact hb2)
  rcases hok with h1 | ⟨h1, h2⟩ | ⟨h1, h2, h3⟩
  all_goals
    go_enter Try.func21, Try.ntmps21
    go_wp2
    refine bodyPost_ret (results_cell_of2 rfl _ _ (w.heap.size + 1) _ _ rfl rfl (load_ref _ _ _ rfl _ _ hb2.out)) rfl ⟨?_, ?_⟩
    · rw [HE.out]; rfl
    · exact ((Below.refl _ w).alloc (Nat.le_refl _) _).alloc (by simp) _
end Go.Proofs.Ytfjejiapafdgeaa

namespace Go.Proofs.Ytfjejiapafdgeaa
open Go.RowKit
set_option maxRecDepth 100000

def v0 : DiskV := newD 1
def v1 : DiskV := writeD v0 0 (fillT 97)
def v2 : DiskV := { v1 with set := true, after := 0, torn := 2 }
def v3 : DiskV := writeD v2 0 (fillT 98)
def v4 : DiskV := { v3 with dead := false, set := false, after := 0, torn := 0 }
theorem e1 : writeE v0 0 (fillT 97) = 0 := by decide
theorem e3 : writeE v2 0 (fillT 98) = 32 := by decide
theorem r4 : reachV v4 0 = 0 := by decide
theorem s4 : v4.S 0 = 98 :: 98 :: (fillT 97).drop 2 := by decide
theorem ok0 : OkD v0 := by unfold OkD; decide
theorem ok2 : OkD v2 := by unfold OkD; decide

end Go.Proofs.Ytfjejiapafdgeaa
