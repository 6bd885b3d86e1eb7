/- What the developers' over does: Turn, Field, Count. What the developers' over does: Swap. What the developers' Do answers. -/
import Derived.Test.YtkifihcficobnaaGreatDoorOverE
import Derived.Deep.RegionWith
import Derived.Test.YtkifihcficobnaaGreatDoorPlainF
import Derived.Test.YtkifihcficobnaaGreatDoorOfF
namespace Go.Proofs.YtkifihcficobnaaGreatDoor
open Go.RowKit Go.Gs
set_option linter.unusedVariables false

set_option maxRecDepth 100000 in
set_option maxHeartbeats 2000000 in
theorem over_turn (sx : ByteArray) (n : Int) (v : Value) (ls : List (List UInt8)) (w : World) (B : Nat) (hB : B ≤ w.heap.size) (hown : w.ownsRow B 9 1 v ls.length (ls.map S)) (hl : ls.length ≤ 300000) (hsz : ∀ s ∈ ls, s.length ≤ 300000) :
    Calls Tryz.prog 51 #[.agg #[.int .i64 5, .string sx, .int .i64 n], v] w fun e w' => ∃ r, e = .returned r ∧ Reads w' r (ls.map List.reverse).length ((ls.map List.reverse).map S) ∧ Below B w w' := by
  have hsf := fun (a : Addr) (c : Array Value) (w : World) => run_store Tryz.prog w a (.func (.func 87) #[] c) .plain rfl
  have eg : ∀ args w, (callFunc 93 args).run Tryz.prog w = .ok (.enter 93 args) w := enters_of Tryz.func93 (by kernel_rfl) rfl
  have Ho : Hid (w.ownsRow B 9 1 v ls.length (ls.map S)) := hown
  have HE : Hid _ := eg
  clear hown eg
  go_enter Tryz.func51, Tryz.ntmps51
  go_wp2_with fail
  refine (each_own v 93 #[] List.reverse HE.out ls _ B ?_ (owns_below Ho.out below_two) hl hsz (fun g _ => turn_line _ _)).mono ?_
  · have := (below_two (w := w) (o := .cells #[.int .i64 5, .string sx, .int .i64 n] 23) (p := .cells #[.nilFunc] 30)).size
    simp
    omega
  rintro e w1 ⟨r, rfl, hr1, hbel1⟩
  have R : Hid _ := hr1
  have HB : Hid (Below B w w1) := ((below_two.mono hB).trans hbel1)
  clear hr1 hbel1
  go_wp2_with fail
  go_ret
  exact ⟨_, rfl, R.out, HB.out⟩

set_option maxRecDepth 100000 in
set_option maxHeartbeats 2000000 in
theorem field_makes (n : Int) (w : World) :
    Calls Tryz.prog 92 #[.int .i64 n] w fun e w' => e = .returned (.func (.func 126) #[] #[.pointer (some ⟨w.heap.size, 0, none⟩)]) ∧ w' = w.alloc (.cells #[.int .i64 n] 3) := by
  go_enter Tryz.func92, Tryz.ntmps92
  go_wp2_with fail
  go_ret
  exact ⟨rfl, rfl⟩
set_option maxRecDepth 100000 in
set_option maxHeartbeats 2000000 in
theorem swap_makes (a c : UInt8) (w : World) :
    Calls Tryz.prog 91 #[U a, U c] w fun e w' => e = .returned (.func (.func 125) #[] #[.pointer (some ⟨w.heap.size, 0, none⟩), .pointer (some ⟨w.heap.size + 1, 0, none⟩)]) ∧ w' = (w.alloc (.cells #[U a] 5)).alloc (.cells #[U c] 5) := by
  unfold U
  go_enter Tryz.func91, Tryz.ntmps91
  go_wp2_with fail
  go_ret
  exact ⟨rfl, rfl⟩

theorem cell_three {w : World} {o p : Obj} {u : Value} {t : TypeId} : (((w.alloc o).alloc p).alloc (.cells #[u] t)).cell? ⟨w.heap.size + 2, 0, none⟩ = some u := by
  have h : ((w.alloc o).alloc p).heap.size = w.heap.size + 2 := by simp
  rw [← h, cell_of_row _ _ _ _ _ _ (heap_alloc_new _ _)]
  rfl
theorem below_grow' {B : Nat} {w : World} (q : Nat) (os : Array Obj) (hB : B ≤ w.heap.size) : Below B w (Sort.grow (w.drewN q) os) := by
  have h1 : Below w.heap.size w (w.drewN q) := below_drewN' (Below.refl _ _) q
  have h2 := below_grown (w.drewN q) 0 os
  rw [Sort.ahead_zero] at h2
  exact (h1.trans (h2.mono h1.size)).mono hB
theorem below_three {w : World} {o p q : Obj} : Below w.heap.size w (((w.alloc o).alloc p).alloc q) := below_two.alloc (by simp; omega) q

set_option maxRecDepth 100000 in
set_option maxHeartbeats 2000000 in
theorem over_field (sx : ByteArray) (n m : Int) (v : Value) (ls : List (List UInt8)) (w : World) (B : Nat) (hB0 : 5 < B) (hB : B ≤ w.heap.size) (hown : w.ownsRow B 9 1 v ls.length (ls.map S)) (hl : ls.length ≤ 300000) (hsz : ∀ s ∈ ls, s.length ≤ 300000) (hn1 : 1 ≤ n) (hn2 : n ≤ 1000) (hm : w.cell? ⟨5, 0, none⟩ = some (.int .i64 m)) :
    Calls Tryz.prog 51 #[.agg #[.int .i64 4, .string sx, .int .i64 n], v] w fun e w' => ∃ r, e = .returned r ∧ Reads w' r (ls.map (fieldOf n)).length ((ls.map (fieldOf n)).map S) ∧ Below B w w' := by
  have hsf := fun (a : Addr) (c : Array Value) (w : World) => run_store Tryz.prog w a (.func (.func 87) #[] c) .plain rfl
  have eg : ∀ args w, (callFunc 126 args).run Tryz.prog w = .ok (.enter 126 args) w := enters_of Tryz.func126 (by kernel_rfl) rfl
  have Ho : Hid (w.ownsRow B 9 1 v ls.length (ls.map S)) := hown
  have HE : Hid _ := eg
  have HM : Hid _ := hm
  clear hown eg hm
  go_enter Tryz.func51, Tryz.ntmps51
  go_wp2_with fail
  refine (field_makes n _).mono ?_
  rintro e w3 ⟨rfl, hw3⟩
  have hb3 : Below w.heap.size w w3 := by rw [hw3]; exact below_three
  have hc3 : w3.cell? ⟨w.heap.size + 2, 0, none⟩ = some (.int .i64 n) := by rw [hw3]; exact cell_three
  have hm3 : w3.cell? ⟨5, 0, none⟩ = some (.int .i64 m) := (hb3.cell (by show 5 < _; omega)).trans HM.out
  have hE := each_own v 126 #[.pointer (some ⟨w.heap.size + 2, 0, none⟩)] (fieldOf n) HE.out ls w3 B (by have := hb3.size; omega) (owns_below Ho.out hb3) hl hsz
    (fun g hg => by
      obtain ⟨h1, h2⟩ := Ho.out.lt g hg
      exact field_line w3 (some g) (w.heap.size + 2) n m hn1 hn2 hc3 (by intro e; cases e; omega) hm3 (by intro e; cases e; omega))
  have HB3 : Hid _ := hb3
  clear hw3 hb3 hc3 hm3
  go_wp2_with fail
  refine hE.mono ?_
  rintro e w1 ⟨r, rfl, hr1, hbel1⟩
  have R : Hid _ := hr1
  have HB : Hid (Below B w w1) := ((HB3.out.mono hB).trans hbel1)
  clear hr1 hbel1 hE
  go_wp2_with fail
  go_ret
  exact ⟨_, rfl, R.out, HB.out⟩

set_option maxRecDepth 100000 in
set_option maxHeartbeats 2000000 in
theorem over_count (sx : ByteArray) (n : Int) (ao : Option Addr) (L cap : Nat) (w : World) (hL : L ≤ 300000) (htab : ∀ W, Below w.heap.size w W → Lib.TabIs Tryz.prog W "internal/strconv.uint64pow10" .u64 Lib.pow10Tab) :
    Calls Tryz.prog 51 #[.agg #[.int .i64 8, .string sx, .int .i64 n], .slice ao L cap] w fun e w' => ∃ r, e = .returned r ∧ Reads w' r 1 [S (Lib.itoa (L : Int))] ∧ Below w.heap.size w w' := by
  have hsf := fun (a : Addr) (c : Array Value) (w : World) => run_store Tryz.prog w a (.func (.func 87) #[] c) .plain rfl
  have hI := fun (W : World) (h : Below w.heap.size w W) => Tryz.strconv_Itoa L (by omega) (by omega) W (htab W h)
  obtain ⟨t, ht⟩ : ∃ t, t = Lib.itoa (L : Int) := ⟨_, rfl⟩
  rw [← ht] at hI ⊢
  have HI : Hid _ := hI
  clear htab hI ht
  go_enter Tryz.func51, Tryz.ntmps51
  go_wp2_with fail
  refine (HI.out _ below_two).mono ?_
  rintro e w1 ⟨rfl, q, os, hw1⟩
  have HB : Hid (Below w.heap.size w w1) := by
    rw [hw1]
    exact below_two.trans (below_grow' _ _ (by simp; omega))
  clear hw1
  go_wp2_with fail
  go_ret
  exact ⟨_, rfl, by simpa [S] using reads_new w1 #[S t] 9 (0, 0) 1 rfl (by omega), HB.out.trans (((Below.refl _ w1).alloc (Nat.le_refl _) _).mono HB.out.size)⟩
end Go.Proofs.YtkifihcficobnaaGreatDoor
namespace Go.Proofs.YtkifihcficobnaaGreatDoor
open Go.RowKit Go.Gs
set_option linter.unusedVariables false

theorem four_cells {w : World} {o p : Obj} {u1 u2 : Value} {t : TypeId} :
    (((((w.alloc o).alloc p).alloc (.cells #[u1] t)).alloc (.cells #[u2] t))).cell? ⟨w.heap.size + 2, 0, none⟩ = some u1 ∧ (((((w.alloc o).alloc p).alloc (.cells #[u1] t)).alloc (.cells #[u2] t))).cell? ⟨w.heap.size + 3, 0, none⟩ = some u2 ∧
      Below w.heap.size w (((((w.alloc o).alloc p).alloc (.cells #[u1] t)).alloc (.cells #[u2] t))) := by
  have h1 : ((w.alloc o).alloc p).heap.size = w.heap.size + 2 := by simp
  have h2 : (((w.alloc o).alloc p).alloc (.cells #[u1] t)).heap.size = w.heap.size + 3 := by simp
  refine ⟨?_, ?_, ?_⟩
  · have hA : (((w.alloc o).alloc p).alloc (.cells #[u1] t)).cell? ⟨w.heap.size + 2, 0, none⟩ = some u1 := by
      rw [← h1, cell_of_row _ _ _ _ _ _ (heap_alloc_new _ _)]
      rfl
    exact Lib.cell?_alloc_some _ hA
  · rw [← h2, cell_of_row _ _ _ _ _ _ (heap_alloc_new _ _)]
    rfl
  · exact (below_two.alloc (by simp; omega) _).alloc (by simp; omega) _

theorem swap_each (a c : UInt8) (v : Value) (ls : List (List UInt8)) (w : World) {o p : Obj} (B : Nat) (hB : B ≤ w.heap.size) (hown : w.ownsRow B 9 1 v ls.length (ls.map S)) (hl : ls.length ≤ 300000) (hsz : ∀ s ∈ ls, s.length ≤ 300000) :
    Calls Tryz.prog 90 #[v, .func (.func 125) #[] #[.pointer (some ⟨w.heap.size + 2, 0, none⟩), .pointer (some ⟨w.heap.size + 3, 0, none⟩)]] ((((w.alloc o).alloc p).alloc (.cells #[U a] 5)).alloc (.cells #[U c] 5)).drew fun e w' => ∃ r, e = .returned r ∧ Reads w' r (ls.map (swapOf a c)).length ((ls.map (swapOf a c)).map S) ∧ Below B w w' := by
  have eg : ∀ args w, (callFunc 125 args).run Tryz.prog w = .ok (.enter 125 args) w := enters_of Tryz.func125 (by kernel_rfl) rfl
  obtain ⟨h1, h2, h3⟩ := four_cells (w := w) (o := o) (p := p) (u1 := U a) (u2 := U c) (t := 5)
  generalize hw3 : ((((w.alloc o).alloc p).alloc (.cells #[U a] 5)).alloc (.cells #[U c] 5)) = w3 at *
  have hE := each_own v 125 #[.pointer (some ⟨w.heap.size + 2, 0, none⟩), .pointer (some ⟨w.heap.size + 3, 0, none⟩)] (swapOf a c) eg ls w3.drew B (by have := h3.size; simp; omega) (owns_below hown h3.drew) hl hsz
    (fun g hg => by
      obtain ⟨h5, h6⟩ := hown.lt g hg
      exact swap_line w3.drew (some g) (w.heap.size + 2) (w.heap.size + 3) a c h1 h2 (by intro e; cases e; omega) (by intro e; cases e; omega))
  refine hE.mono ?_
  rintro e w4 ⟨r, rfl, hr, hb⟩
  exact ⟨r, rfl, hr, (h3.drew.mono hB).trans hb⟩

set_option maxRecDepth 100000 in
set_option maxHeartbeats 4000000 in
theorem over_swap (a c : UInt8) (n : Int) (v : Value) (ls : List (List UInt8)) (w : World) (B : Nat) (hB : B ≤ w.heap.size) (hown : w.ownsRow B 9 1 v ls.length (ls.map S)) (hl : ls.length ≤ 300000) (hsz : ∀ s ∈ ls, s.length ≤ 300000) :
    Calls Tryz.prog 51 #[.agg #[.int .i64 3, .string ⟨#[a, c]⟩, .int .i64 n], v] w fun e w' => ∃ r, e = .returned r ∧ Reads w' r (ls.map (swapOf a c)).length ((ls.map (swapOf a c)).map S) ∧ Below B w w' := by
  have hsf := fun (a : Addr) (c : Array Value) (w : World) => run_store Tryz.prog w a (.func (.func 87) #[] c) .plain rfl
  have eg : ∀ args w, (callFunc 125 args).run Tryz.prog w = .ok (.enter 125 args) w := enters_of Tryz.func125 (by kernel_rfl) rfl
  have Ho : Hid (w.ownsRow B 9 1 v ls.length (ls.map S)) := hown
  have HE : Hid _ := eg
  clear hown eg
  go_enter Tryz.func51, Tryz.ntmps51
  go_wp2_with fail
  go_region_with (first
    | (go_at_call 91; refine (swap_makes a c _).mono ?_; rintro e w3 ⟨rfl, hw3⟩)
    | (go_at_call 90; refine (swap_each a c v ls w B hB Ho.out hl hsz).mono ?_; rintro e w4 ⟨r, rfl, hr4, hb4⟩))
  all_goals (have R : Hid _ := hr4; have HB : Hid _ := hb4; clear hr4 hb4 hw3; go_wp2_with fail; go_ret; exact ⟨_, rfl, R.out, HB.out⟩)
end Go.Proofs.YtkifihcficobnaaGreatDoor
namespace Go.Proofs.YtkifihcficobnaaGreatDoor
open Go.RowKit Go.Gs
set_option linter.unusedVariables false

theorem line_len {l : List (List UInt8)} {s : List UInt8} (h : s ∈ l) : s.length + 1 ≤ (ended l).length := by
  induction l with
  | nil => cases h
  | cons t l ih =>
    rw [ended_cons]
    simp only [List.length_append, List.length_cons, List.length_nil]
    rcases List.mem_cons.1 h with rfl | h
    · omega
    · have := ih h
      omega
theorem lines_short {b s : List UInt8} (h : s ∈ lines b) (hb : b.length ≤ 4000) : s.length ≤ 4000 := by
  have h1 := line_len h
  have h2 := ended_lines b
  omega
theorem chk_num {c : Cmd} (h : chk c = 0) (hk : uses c.kind = 2) : 1 ≤ c.n ∧ c.n ≤ 1000 := by
  unfold chk at h
  rw [hk] at h
  by_cases h1 : c.n < 1 ∨ 1000 < c.n
  · simp [h1] at h
    split at h <;> cases h
  · omega

/-- What is known of the world: the library's number, and its table of powers of ten. -/
def Known (w : World) : Prop := (∃ m, w.cell? ⟨5, 0, none⟩ = some (.int .i64 m)) ∧ Lib.TabIs Tryz.prog w "internal/strconv.uint64pow10" .u64 Lib.pow10Tab

theorem tab_below {w w' : World} {n : String} {k : IntKind} {zs : List Int} (h : Lib.TabIs Tryz.prog w n k zs) (hb : Below w.heap.size w w') : Lib.TabIs Tryz.prog w' n k zs := by
  unfold Lib.TabIs World.var? at h ⊢
  cases hg : Tryz.prog.globalNamed n with
  | none => rw [hg] at h; cases h
  | some g =>
    rw [hg] at h
    simp only [Option.bind_some] at h ⊢
    have hlt : g < w.heap.size := by
      rcases Nat.lt_or_ge g w.heap.size with h' | h'
      · exact h'
      · rw [Array.getElem?_eq_none h'] at h; cases h
    rw [hb.block g hlt]
    exact h
theorem Known.below {w w' : World} (h : Known w) (hb : Below w.heap.size w w') : Known w' := by
  obtain ⟨⟨m, hm⟩, ht⟩ := h
  exact ⟨⟨m, (hb.cell (World.block_lt_of_cell? w _ hm)).trans hm⟩, tab_below ht hb⟩

theorem owns_mono {w : World} {B B' : Nat} {e : TypeId} {size : Nat} {v : Value} {n : Nat} {xs : List Value} (h : w.ownsRow B e size v n xs) (hB : B' ≤ B) : w.ownsRow B' e size v n xs := by
  refine ⟨h.1, ?_⟩
  rcases h.2 with h0 | ⟨g, cap, cur, h1, h2, h3⟩
  · exact .inl h0
  · exact .inr ⟨g, cap, cur, h1, by omega, h3⟩
theorem two_word {word : List UInt8} (h : word.length = 2) : ∃ a b, word = [a, b] := by
  match word, h with
  | [a, b], _ => exact ⟨a, b, rfl⟩

set_option maxRecDepth 100000 in
theorem over_is (c : Cmd) (hc : chk c = 0) (v : Value) (ls : List (List UInt8)) (w : World) (B : Nat) (hB0 : 5 < B) (hB : B ≤ w.heap.size) (hown : w.ownsRow B 9 1 v ls.length (ls.map S)) (hl : ls.length ≤ 300000) (hsz : ∀ s ∈ ls, s.length ≤ 300000) (hK : Known w) :
    Calls Tryz.prog 51 #[c.v, v] w fun e w' => ∃ r, e = .returned r ∧ Reads w' r (made c ls).length ((made c ls).map S) ∧ Below B w w' := by
  have hk := chk_kinds c hc
  have hnum := chk_num hc
  have hsw := chk_le hc
  obtain ⟨⟨m, hm⟩, htab⟩ := hK
  have hsz' : ∀ s ∈ ls, s.length ≤ 1000000 := fun s hs => Nat.le_trans (hsz s hs) (by omega)
  have hdrop : ∀ {P : World → Value → Prop} , (Calls Tryz.prog 51 #[c.v, v] w fun e w' => ∃ r, e = .returned r ∧ P w' r ∧ Below w.heap.size w w') → (Calls Tryz.prog 51 #[c.v, v] w fun e w' => ∃ r, e = .returned r ∧ P w' r ∧ Below B w w') := by
    intro P h
    refine h.mono ?_
    rintro e w' ⟨r, rfl, h1, h2⟩
    exact ⟨r, rfl, h1, h2.mono hB⟩
  obtain ⟨k, word, n⟩ := c
  have : k = 1 ∨ k = 2 ∨ k = 3 ∨ k = 4 ∨ k = 5 ∨ k = 6 ∨ k = 7 ∨ k = 8 ∨ k = 9 ∨ k = 10 := by simp only at hk; omega
  rcases this with rfl | rfl | rfl | rfl | rfl | rfl | rfl | rfl | rfl | rfl
  · rw [made1 _ rfl]; exact over_keep word n m v ls w B hB0 hB hown hl hsz' hm
  · rw [made2 _ rfl]; exact over_drop word n m v ls w B hB0 hB hown hl hsz' hm
  · rw [made3 _ rfl]
    obtain ⟨a, b, rfl⟩ := two_word (hsw rfl).1
    exact over_swap a b n v ls w B hB hown hl hsz
  · rw [made4 _ rfl]
    obtain ⟨h1, h2⟩ := hnum rfl
    exact over_field ⟨word.toArray⟩ n m v ls w B hB0 hB hown hl hsz h1 h2 hm
  · rw [made5 _ rfl]; exact over_turn ⟨word.toArray⟩ n v ls w B hB hown hl hsz
  · rw [made6 _ rfl]; exact over_sort ⟨word.toArray⟩ n v ls w B hB hown hl
  · rw [made7 _ rfl]; exact over_once ⟨word.toArray⟩ n v ls w B hB hown hl
  · rw [made8 _ rfl]
    obtain ⟨_, ao, cap, rfl, _⟩ := Reads.of_owns hown
    exact hdrop (over_count ⟨word.toArray⟩ n ao ls.length cap w hl (fun W h => tab_below htab h))
  · rw [made9 _ rfl]
    obtain ⟨h1, h2⟩ := hnum rfl
    exact hdrop (over_head ⟨word.toArray⟩ n v ls w B hown hl h1 h2)
  · rw [made10 _ rfl]
    obtain ⟨h1, h2⟩ := hnum rfl
    exact hdrop (over_tail ⟨word.toArray⟩ n v ls w B hown hl h1 h2)

set_option maxRecDepth 100000 in
set_option maxHeartbeats 2000000 in
theorem do_err (c : Cmd) (v : Value) (w : World) (hw : c.word.length ≤ 9223372036854775807) (h : chk c ≠ 0) :
    Calls Tryz.prog 10 #[c.v, v] w fun e w' => e = .returned (.tuple #[.slice none 0 0, .int .i64 (chk c)]) ∧ Below w.heap.size w w' := by
  have hchk := fun W => check_is c W hw
  obtain ⟨k, word, n⟩ := c
  unfold Cmd.v at hchk ⊢
  simp only at hchk ⊢
  generalize (⟨word.toArray⟩ : ByteArray) = sx at *
  generalize chk ⟨k, word, n⟩ = r at *
  go_enter Tryz.func10, Tryz.ntmps10
  go_wp2_with fail
  refine (hchk _).mono ?_
  rintro e w1 ⟨rfl, hb1⟩
  have HB : Hid (Below w.heap.size w w1) := box_of.trans (hb1.mono (by simp))
  clear hb1 hchk
  go_wp2_with fail
  go_ret2
  exact ⟨rfl, HB.out⟩

set_option maxRecDepth 100000 in
set_option maxHeartbeats 2000000 in
theorem do_many (c : Cmd) (v : Value) (nn : Nat) (xs : List Value) (w : World) (hw : c.word.length ≤ 9223372036854775807) (h : chk c = 0) (hr : Reads w v nn xs) (hn : 4000 < nn) :
    Calls Tryz.prog 10 #[c.v, v] w fun e w' => e = .returned (.tuple #[.slice none 0 0, .int .i64 2]) ∧ Below w.heap.size w w' := by
  have hchk := fun W => check_is c W hw
  rw [h] at hchk
  obtain ⟨k, word, n⟩ := c
  unfold Cmd.v at hchk ⊢
  simp only at hchk ⊢
  generalize (⟨word.toArray⟩ : ByteArray) = sx at *
  have HR : Hid (Reads w v nn xs) := hr
  clear hr
  go_enter Tryz.func10, Tryz.ntmps10
  go_wp2_with fail
  refine (hchk _).mono ?_
  rintro e w1 ⟨rfl, hb1⟩
  have HB : Hid (Below w.heap.size w w1) := box_of.trans (hb1.mono (by simp))
  clear hb1 hchk
  go_wp2_with fail
  refine (of_over v nn xs w1 (HR.out.below HB.out) hn).mono ?_
  rintro e w2 ⟨rfl, rfl⟩
  go_wp2_with fail
  go_ret2
  exact ⟨rfl, HB.out⟩

set_option maxRecDepth 100000 in
set_option maxHeartbeats 2000000 in
theorem do_ok (c : Cmd) (v : Value) (bs : List UInt8) (w : World) (hw : c.word.length ≤ 9223372036854775807) (h : chk c = 0) (hr : Reads w v bs.length (bs.map U)) (hn : bs.length ≤ 4000) (hK : Known w) :
    Calls Tryz.prog 10 #[c.v, v] w fun e w' => ∃ r, e = .returned (.tuple #[r, .int .i64 0]) ∧ w'.ownsRow w.heap.size 5 1 r (doOut c bs).length ((doOut c bs).map U) ∧ Below w.heap.size w w' := by
  have hchk := fun W => check_is c W hw
  rw [h] at hchk
  have hover := fun (v : Value) (W : World) (B : Nat) hB0 hB ho hK => over_is c h v (lines bs) W B hB0 hB ho (Nat.le_trans (lines_length bs) (Nat.le_trans hn (by omega))) (fun s hs => Nat.le_trans (lines_short hs hn) (by omega)) hK
  have hlen : (ended (made c (lines bs))).length ≤ 1000000 := by have := doOut_len c h bs (by omega); unfold doOut at this; omega
  have hend := fun (v : Value) (W : World) hr => ended_reads v (made c (lines bs)) W hr hlen
  have hdo : ended (made c (lines bs)) = doOut c bs := rfl
  rw [hdo] at hend
  clear hlen hdo
  generalize doOut c bs = D at *
  generalize made c (lines bs) = M at *
  obtain ⟨k, word, n⟩ := c
  unfold Cmd.v at hchk hover ⊢
  simp only at hchk hover ⊢
  generalize (⟨word.toArray⟩ : ByteArray) = sx at *
  have HR : Hid (Reads w v bs.length (bs.map U)) := hr
  have HO : Hid _ := hover
  have HE : Hid _ := hend
  have HK : Hid (Known w) := hK
  clear hr hover hend hK
  go_enter Tryz.func10, Tryz.ntmps10
  go_wp2_with fail
  refine (hchk _).mono ?_
  rintro e w1 ⟨rfl, hb1⟩
  have HB : Hid (Below w.heap.size w w1) := box_of.trans (hb1.mono (by simp))
  have hbox : w1.cell? ⟨w.heap.size, 0, none⟩ = some (.int .i64 k) ∧ w1.cell? ⟨w.heap.size, 1, none⟩ = some (.string sx) ∧ w1.cell? ⟨w.heap.size, 2, none⟩ = some (.int .i64 n) := by
    refine ⟨?_, ?_, ?_⟩
    all_goals
      rw [hb1.cell (by simp), cell_of_row _ _ _ _ _ _ (heap_alloc_new w _)]
      rfl
  have hsz1 : w.heap.size < w1.heap.size := by have := hb1.size; simp at this; omega
  clear hb1 hchk
  go_wp2_with fail
  refine (of_reads v bs w1 (HR.out.below HB.out) hn).mono ?_
  rintro e w2 ⟨l, rfl, hown, hb2⟩
  obtain ⟨x0, x1, x2⟩ := hbox
  have y0 : w2.cell? ⟨w.heap.size, 0, none⟩ = some (.int .i64 k) := (hb2.cell hsz1).trans x0
  have y1 : w2.cell? ⟨w.heap.size, 1, none⟩ = some (.string sx) := (hb2.cell hsz1).trans x1
  have y2 : w2.cell? ⟨w.heap.size, 2, none⟩ = some (.int .i64 n) := (hb2.cell hsz1).trans x2
  have HW : Hid (w2.ownsRow w1.heap.size 9 1 l (lines bs).length ((lines bs).map S)) := hown
  have HB2 : Hid (Below w1.heap.size w1 w2) := hb2
  clear x0 x1 x2 hown hb2
  go_wp2_with fail
  refine (HO.out l w2 w1.heap.size ?_ HB2.out.size HW.out ((HK.out.below HB.out).below HB2.out)).mono ?_
  · obtain ⟨⟨m, hm⟩, _⟩ := HK.out
    have := World.block_lt_of_cell? w _ hm
    simp only at this
    omega
  rintro e w3 ⟨r3, rfl, hr3, hb3⟩
  have HR3 : Hid _ := hr3
  have HB3 : Hid (Below w1.heap.size w2 w3) := hb3
  clear hr3 hb3 y0 y1 y2
  go_wp2_with fail
  refine (HE.out r3 w3 HR3.out).mono ?_
  rintro e w4 ⟨r4, rfl, hown4, hb4⟩
  have hs3 : w.heap.size ≤ w3.heap.size := by have h1 := HB.out.size; have h2 := HB2.out.size; have h3 := HB3.out.size; omega
  have HO4 : Hid _ := owns_mono hown4 hs3
  have HB4 : Hid (Below w.heap.size w w4) := HB.out.trans ((HB2.out.mono HB.out.size).trans ((HB3.out.mono HB.out.size).trans (hb4.mono hs3)))
  clear hown4 hb4
  go_wp2_with fail
  go_ret2
  exact ⟨_, rfl, HO4.out, HB4.out⟩

/-- Do, whatever it is handed. -/
theorem do_is (c : Cmd) (v : Value) (bs : List UInt8) (w : World) (hw : c.word.length ≤ 9223372036854775807) (hr : Reads w v bs.length (bs.map U)) (hK : Known w) :
    Calls Tryz.prog 10 #[c.v, v] w fun e w' => ∃ r, e = .returned (.tuple #[r, .int .i64 (doErr c bs)]) ∧ (doErr c bs ≠ 0 → r = .slice none 0 0) ∧ (doErr c bs = 0 → w'.ownsRow w.heap.size 5 1 r (doOut c bs).length ((doOut c bs).map U)) ∧ Below w.heap.size w w' := by
  by_cases h : chk c = 0
  · by_cases hn : bs.length ≤ 4000
    · have e0 : doErr c bs = 0 := by unfold doErr; rw [if_neg (by simp [h]), if_neg (by omega)]
      rw [e0]
      refine (do_ok c v bs w hw h hr hn hK).mono ?_
      rintro e w' ⟨r, rfl, h1, h2⟩
      exact ⟨r, rfl, fun h => absurd rfl h, fun _ => h1, h2⟩
    · have e0 : doErr c bs = 2 := by unfold doErr; rw [if_neg (by simp [h]), if_pos (by omega)]
      rw [e0]
      refine (do_many c v bs.length _ w hw h hr (by omega)).mono ?_
      rintro e w' ⟨rfl, h2⟩
      exact ⟨_, rfl, fun _ => rfl, fun h => absurd h (by decide), h2⟩
  · have e0 : doErr c bs = chk c := by unfold doErr; rw [if_pos h]
    rw [e0]
    refine (do_err c v w hw h).mono ?_
    rintro e w' ⟨rfl, h2⟩
    exact ⟨_, rfl, fun _ => rfl, fun h' => absurd h' h, h2⟩
end Go.Proofs.YtkifihcficobnaaGreatDoor
