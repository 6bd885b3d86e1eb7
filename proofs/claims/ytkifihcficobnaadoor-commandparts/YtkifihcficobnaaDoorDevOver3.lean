/- What the developers' over does: Keep, Drop. -/
import Derived.Test.YtkifihcficobnaaDoorDevOver2
import Derived.Shelf.GgClosure.Gives
namespace Go.Proofs.YtkifihcficobnaaDoor
open Go.RowKit Go.Gs
set_option linter.unusedVariables false

/-- A line, cut where it were too long: none of those that are met is. -/
def cutL (x : List UInt8) : List UInt8 := x.take 1000000
def encL (x : List UInt8) : Value := encStr (cutL x)
theorem cutL_id {s : List UInt8} (h : s.length ≤ 1000000) : cutL s = s := List.take_of_length_le h
theorem cutL_len (s : List UInt8) : (cutL s).length ≤ 1000000 := by unfold cutL; simp; omega

theorem filter_cut (ls : List (List UInt8)) (p : List UInt8 → Bool) (h : ∀ s ∈ ls, s.length ≤ 1000000) : (ls.filter fun x => !p (cutL x)) = ls.filter fun x => !p x := by
  apply List.filter_congr
  intro x hx
  rw [cutL_id (h x hx)]
theorem map_cut (ls : List (List UInt8)) (h : ∀ s ∈ ls, s.length ≤ 1000000) : ls.map encL = ls.map S := by
  apply List.map_congr_left
  intro x hx
  unfold encL
  rw [cutL_id (h x hx)]
  rfl

set_option maxRecDepth 100000 in
set_option maxHeartbeats 2000000 in
theorem delete_none (fv : Value) (w : World) :
    Calls Tryd.prog 66 #[.slice none 0 0, fv] w fun e w' => e = .returned (.slice none 0 0) ∧ w' = w := by
  have hf := Tryd.slices_IndexFunc_empty (α := List UInt8) none 0 fv w
  go_enter Tryd.func66, Tryd.ntmps66
  go_wp2_with (go_at_call 93; refine hf.mono ?_; rintro e w9 ⟨rfl, rfl⟩)
  go_ret
  exact ⟨rfl, rfl⟩

theorem delete_own (v : Value) (ls : List (List UInt8)) (w : World) (B g : Nat) (lb : Array Value) (p : List UInt8 → Bool) (eg : ∀ args w, (callFunc g args).run Tryd.prog w = .ok (.enter g args) w) (hown : w.ownsRow B 9 1 v ls.length (ls.map S)) (hl : ls.length ≤ 1000000) (hsz : ∀ s ∈ ls, s.length ≤ 1000000)
    (hp : PredAt Tryd.prog g lb encL (fun x => p (cutL x)) w) (hpo : ∀ blk, v.ownBlock = some blk → PredOver Tryd.prog g lb encL (fun x => p (cutL x)) blk 0 ls.length w) :
    Calls Tryd.prog 66 #[v, .func (.func g) #[] lb] w fun e w' => ∃ r, e = .returned r ∧ w'.ownsRow B 9 1 r (ls.filter fun x => !p x).length ((ls.filter fun x => !p x).map S) ∧ Below B w w' := by
  rcases own_cases hown with ⟨rfl, rfl⟩ | ⟨blk, cap, rfl, hBg, hgw, hcap, hcm, hH⟩
  · refine (delete_none _ w).mono ?_
    rintro e w' ⟨rfl, rfl⟩
    exact ⟨_, rfl, World.ownsRow_nil w' B 9 1, Below.refl _ _⟩
  · have hHz : Sort.Holds encL w blk 0 ls.toArray := by
      intro j hj
      have hj' : j < ls.length := by simpa using hj
      obtain ⟨h1, h2⟩ := hH j hj
      refine ⟨?_, h2⟩
      rw [h1]
      unfold encL
      rw [cutL_id]
      simp only [List.getElem!_toArray]
      rw [getElem!_pos ls j hj']
      exact hsz _ (List.getElem_mem hj')
    have hown' : w.ownsRow B 9 1 (.slice (some ⟨blk, 0, none⟩) ls.length cap) ls.length (ls.map encL) := by
      rw [map_cut ls hsz]
      exact hown
    have hD := Tryd.slices_DeleteFunc encL (fun _ => rfl) (fun x => p (cutL x)) g lb eg [] Tryd.zeroValue9 blk 0 cap ls.toArray w hp (hpo blk rfl) hHz (by simp; omega) (by simpa using hcap)
    simp only [List.size_toArray] at hD
    rw [filter_cut ls p hsz] at hD
    refine hD.mono ?_
    rintro e w' ⟨rfl, q, rfl⟩
    have hle : (ls.filter fun x => !p x).length ≤ ls.length := List.length_filter_le _ _
    have hc := Lib.ownsRow_putRow (enc := encL) (q := q) (k := (ls.filter fun x => !p x).length) (ys := (ls.filter fun x => !p x) ++ List.replicate (ls.length - (ls.filter fun x => !p x).length) ([] : List UInt8)) hown' (by simp; omega) hle
    rw [List.take_left, map_cut _ (fun s hs => hsz s (List.mem_filter.1 hs).1)] at hc
    exact ⟨_, rfl, hc, Lib.below_putRow (Below.refl _ _) hBg⟩

set_option maxRecDepth 100000 in
set_option maxHeartbeats 1000000 in
theorem has_gives (bx : Nat) (word x : List UInt8) (m : Int) (W : World) (hc : W.cell? ⟨bx, 1, none⟩ = some (.string ⟨word.toArray⟩)) (hm : W.cell? ⟨1, 0, none⟩ = some (.int .i64 m)) (hx : x.length ≤ 1000000) :
    Calls Tryd.prog 64 #[encStr x, .pointer (some ⟨bx, 0, none⟩)] W fun e w' => e = .returned (.bool (Lib.contains x word)) ∧ w' = W := by
  have hcon := Tryd.strings_Contains ⟨x.toArray⟩ ⟨word.toArray⟩ m W (by simp [ByteArray.size]; omega) hm
  simp only at hcon
  unfold encStr
  go_enter Tryd.func64, Tryd.ntmps64
  go_wp2_with (go_at_call 65; refine hcon.mono ?_; rintro e w9 ⟨rfl, rfl⟩)
  go_ret
  exact ⟨rfl, rfl⟩

set_option maxRecDepth 100000 in
set_option maxHeartbeats 1000000 in
theorem hasnt_gives (bx hb : Nat) (word x : List UInt8) (m : Int) (W : World) (hh : W.cell? ⟨hb, 0, none⟩ = some (.func (.func 64) #[] #[.pointer (some ⟨bx, 0, none⟩)])) (hc : W.cell? ⟨bx, 1, none⟩ = some (.string ⟨word.toArray⟩)) (hm : W.cell? ⟨1, 0, none⟩ = some (.int .i64 m)) (hx : x.length ≤ 1000000) :
    Calls Tryd.prog 67 #[encStr x, .pointer (some ⟨hb, 0, none⟩)] W fun e w' => e = .returned (.bool (!Lib.contains x word)) ∧ w' = W := by
  have hcon := has_gives bx word x m W hc hm hx
  unfold encStr at hcon ⊢
  have eg : ∀ args w, (callFunc 64 args).run Tryd.prog w = .ok (.enter 64 args) w := enters_of Tryd.func64 (by kernel_rfl) rfl
  generalize Lib.contains x word = r at *
  go_enter Tryd.func67, Tryd.ntmps67
  go_wp2_with (go_at_fn 64; refine hcon.mono ?_; rintro e w9 ⟨rfl, rfl⟩)
  go_ret
  exact ⟨rfl, rfl⟩

theorem cell_over {w : World} {blk n : Nat} {dk : Array (List UInt8)} {os : Array Obj} {a : Addr} {u : Value} (hc : w.cell? a = some u) (hne : a.block ≠ blk) : (sortWorld encL w blk 0 n dk os).cell? a = some u := by
  have hB := World.block_lt_of_cell? w _ hc
  unfold sortWorld
  rw [Sort.cell?_grow _ _ _ (by rw [Sort.size_putRow]; exact hB), Sort.cell?_putRow_other _ _ blk 0 _ _ (Or.inl hne)]
  exact hc

set_option maxRecDepth 100000 in
set_option maxHeartbeats 2000000 in
theorem over_keep (word : List UInt8) (n m : Int) (v : Value) (ls : List (List UInt8)) (w : World) (B : Nat) (hB0 : 1 < B) (hB : B ≤ w.heap.size) (hown : w.ownsRow B 9 1 v ls.length (ls.map S)) (hl : ls.length ≤ 300000) (hsz : ∀ s ∈ ls, s.length ≤ 1000000) (hm : w.cell? ⟨1, 0, none⟩ = some (.int .i64 m)) :
    Calls Tryd.prog 40 #[.agg #[.int .i64 1, .string ⟨word.toArray⟩, .int .i64 n], v] w fun e w' => ∃ r, e = .returned r ∧ Reads w' r (ls.filter fun s => Lib.contains s word).length ((ls.filter fun s => Lib.contains s word).map S) ∧ Below B w w' := by
  have hsf := fun (a : Addr) (c : Array Value) (w : World) => run_store Tryd.prog w a (.func (.func 64) #[] c) .plain rfl
  have eg : ∀ args w, (callFunc 67 args).run Tryd.prog w = .ok (.enter 67 args) w := enters_of Tryd.func67 (by kernel_rfl) rfl
  obtain ⟨w2, hw2⟩ : ∃ w2, w2 = (w.alloc (.cells #[.int .i64 1, .string ⟨word.toArray⟩, .int .i64 n] 43)).alloc (.cells #[.func (.func 64) #[] #[.pointer (some ⟨w.heap.size, 0, none⟩)]] 99) := ⟨_, rfl⟩
  have hb2 : Below w.heap.size w w2 := by rw [hw2]; exact below_two
  have hbx : w2.cell? ⟨w.heap.size, 1, none⟩ = some (.string ⟨word.toArray⟩) := by rw [hw2]; simp
  have hhb : w2.cell? ⟨w.heap.size + 1, 0, none⟩ = some (.func (.func 64) #[] #[.pointer (some ⟨w.heap.size, 0, none⟩)]) := by rw [hw2]; simp
  have hm2 : w2.cell? ⟨1, 0, none⟩ = some (.int .i64 m) := (hb2.cell (by show 1 < _; omega)).trans hm
  have hD := delete_own v ls w2 B 67 #[.pointer (some ⟨w.heap.size + 1, 0, none⟩)] (fun x => !Lib.contains x word) eg (owns_below hown hb2) (by omega) hsz
    (fun W x hb => by
      refine (hasnt_gives w.heap.size (w.heap.size + 1) word (cutL x) m W ((hb.cell (World.block_lt_of_cell? w2 _ hhb)).trans hhb) ((hb.cell (World.block_lt_of_cell? w2 _ hbx)).trans hbx) ((hb.cell (World.block_lt_of_cell? w2 _ hm2)).trans hm2) (cutL_len x)).mono ?_
      rintro e w' ⟨rfl, rfl⟩
      exact ⟨rfl, 0, rfl⟩)
    (fun blk hblk q os dk x _ => by
      obtain ⟨h1, h2⟩ := hown.lt blk hblk
      refine (hasnt_gives w.heap.size (w.heap.size + 1) word (cutL x) m _ (cell_over hhb (by show w.heap.size + 1 ≠ blk; omega)) (cell_over hbx (by show w.heap.size ≠ blk; omega)) (cell_over hm2 (by show 1 ≠ blk; omega)) (cutL_len x)).mono ?_
      rintro e w' ⟨rfl, rfl⟩
      exact ⟨rfl, 0, rfl⟩)
  have e1 : (ls.filter fun x => !(!Lib.contains x word)) = ls.filter fun s => Lib.contains s word := by simp
  rw [e1] at hD
  generalize (ls.filter fun s => Lib.contains s word) = R at *
  have H2 : Hid _ := hw2
  clear hbx hhb hm2
  rw [hw2] at hD
  clear hw2 hb2
  go_enter Tryd.func40, Tryd.ntmps40
  go_wp2_with fail
  refine hD.mono ?_
  rintro e w1 ⟨r, rfl, hown1, hbel1⟩
  have R : Hid _ := Reads.of_owns hown1
  have HB : Hid (Below B w w1) := ((below_two.mono hB).trans hbel1)
  clear hown1 hbel1
  go_wp2_with fail
  go_ret
  exact ⟨_, rfl, R.out, HB.out⟩

set_option maxRecDepth 100000 in
set_option maxHeartbeats 2000000 in
theorem over_drop (word : List UInt8) (n m : Int) (v : Value) (ls : List (List UInt8)) (w : World) (B : Nat) (hB0 : 1 < B) (hB : B ≤ w.heap.size) (hown : w.ownsRow B 9 1 v ls.length (ls.map S)) (hl : ls.length ≤ 300000) (hsz : ∀ s ∈ ls, s.length ≤ 1000000) (hm : w.cell? ⟨1, 0, none⟩ = some (.int .i64 m)) :
    Calls Tryd.prog 40 #[.agg #[.int .i64 2, .string ⟨word.toArray⟩, .int .i64 n], v] w fun e w' => ∃ r, e = .returned r ∧ Reads w' r (ls.filter fun s => !Lib.contains s word).length ((ls.filter fun s => !Lib.contains s word).map S) ∧ Below B w w' := by
  have hsf := fun (a : Addr) (c : Array Value) (w : World) => run_store Tryd.prog w a (.func (.func 64) #[] c) .plain rfl
  have eg : ∀ args w, (callFunc 64 args).run Tryd.prog w = .ok (.enter 64 args) w := enters_of Tryd.func64 (by kernel_rfl) rfl
  obtain ⟨w2, hw2⟩ : ∃ w2, w2 = (w.alloc (.cells #[.int .i64 2, .string ⟨word.toArray⟩, .int .i64 n] 43)).alloc (.cells #[.func (.func 64) #[] #[.pointer (some ⟨w.heap.size, 0, none⟩)]] 99) := ⟨_, rfl⟩
  have hb2 : Below w.heap.size w w2 := by rw [hw2]; exact below_two
  have hbx : w2.cell? ⟨w.heap.size, 1, none⟩ = some (.string ⟨word.toArray⟩) := by rw [hw2]; simp
  have hm2 : w2.cell? ⟨1, 0, none⟩ = some (.int .i64 m) := (hb2.cell (by show 1 < _; omega)).trans hm
  have hD := delete_own v ls w2 B 64 #[.pointer (some ⟨w.heap.size, 0, none⟩)] (fun x => Lib.contains x word) eg (owns_below hown hb2) (by omega) hsz
    (fun W x hb => by
      refine (has_gives w.heap.size word (cutL x) m W ((hb.cell (World.block_lt_of_cell? w2 _ hbx)).trans hbx) ((hb.cell (World.block_lt_of_cell? w2 _ hm2)).trans hm2) (cutL_len x)).mono ?_
      rintro e w' ⟨rfl, rfl⟩
      exact ⟨rfl, 0, rfl⟩)
    (fun blk hblk q os dk x _ => by
      obtain ⟨h1, h2⟩ := hown.lt blk hblk
      refine (has_gives w.heap.size word (cutL x) m _ (cell_over hbx (by show w.heap.size ≠ blk; omega)) (cell_over hm2 (by show 1 ≠ blk; omega)) (cutL_len x)).mono ?_
      rintro e w' ⟨rfl, rfl⟩
      exact ⟨rfl, 0, rfl⟩)
  generalize (ls.filter fun s => !Lib.contains s word) = R at *
  clear hbx hm2
  rw [hw2] at hD
  clear hw2 hb2
  go_enter Tryd.func40, Tryd.ntmps40
  go_wp2_with fail
  refine hD.mono ?_
  rintro e w1 ⟨r, rfl, hown1, hbel1⟩
  have R : Hid _ := Reads.of_owns hown1
  have HB : Hid (Below B w w1) := ((below_two.mono hB).trans hbel1)
  clear hown1 hbel1
  go_wp2_with fail
  go_ret
  exact ⟨_, rfl, R.out, HB.out⟩
end Go.Proofs.YtkifihcficobnaaDoor
