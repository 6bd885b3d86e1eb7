/- What the developers' Do answers. -/
import Derived.Test.YtkifihcficobnaaDoorDevOver5
import Derived.Test.YtkifihcficobnaaDoorCmdMath
import Derived.Test.YtkifihcficobnaaDoorEnded
namespace Go.Proofs.YtkifihcficobnaaDoor
open Go.RowKit Go.Gs
set_option linter.unusedVariables false

theorem line_len {l : List (List UInt8)} {s : List UInt8} (h : s ∈ l) : s.length + 1 ≤ (ended l).length := by
  induction l with
  | nil => cases h
  | cons t l ih =>
    rw [ended_cons]
    simp only [List.length_append, List.length_cons, List.length_nil]
    rcases List.mem_cons.1 h with rfl | h
    · omega
    · have := ih h
      omega
theorem lines_short {b s : List UInt8} (h : s ∈ lines b) (hb : b.length ≤ 4000) : s.length ≤ 4000 := by
  have h1 := line_len h
  have h2 := ended_lines b
  omega
theorem chk_num {c : Cmd} (h : chk c = 0) (hk : uses c.kind = 2) : 1 ≤ c.n ∧ c.n ≤ 1000 := by
  unfold chk at h
  rw [hk] at h
  by_cases h1 : c.n < 1 ∨ 1000 < c.n
  · simp [h1] at h
    split at h <;> cases h
  · omega

/-- What is known of the world: the library's number, and its table of powers of ten. -/
def Known (w : World) : Prop := (∃ m, w.cell? ⟨1, 0, none⟩ = some (.int .i64 m)) ∧ Lib.TabIs Tryd.prog w "internal/strconv.uint64pow10" .u64 Lib.pow10Tab

theorem tab_below {w w' : World} {n : String} {k : IntKind} {zs : List Int} (h : Lib.TabIs Tryd.prog w n k zs) (hb : Below w.heap.size w w') : Lib.TabIs Tryd.prog w' n k zs := by
  unfold Lib.TabIs World.var? at h ⊢
  cases hg : Tryd.prog.globalNamed n with
  | none => rw [hg] at h; cases h
  | some g =>
    rw [hg] at h
    simp only [Option.bind_some] at h ⊢
    have hlt : g < w.heap.size := by
      rcases Nat.lt_or_ge g w.heap.size with h' | h'
      · exact h'
      · rw [Array.getElem?_eq_none h'] at h; cases h
    rw [hb.block g hlt]
    exact h
theorem Known.below {w w' : World} (h : Known w) (hb : Below w.heap.size w w') : Known w' := by
  obtain ⟨⟨m, hm⟩, ht⟩ := h
  exact ⟨⟨m, (hb.cell (World.block_lt_of_cell? w _ hm)).trans hm⟩, tab_below ht hb⟩

theorem owns_mono {w : World} {B B' : Nat} {e : TypeId} {size : Nat} {v : Value} {n : Nat} {xs : List Value} (h : w.ownsRow B e size v n xs) (hB : B' ≤ B) : w.ownsRow B' e size v n xs := by
  refine ⟨h.1, ?_⟩
  rcases h.2 with h0 | ⟨g, cap, cur, h1, h2, h3⟩
  · exact .inl h0
  · exact .inr ⟨g, cap, cur, h1, by omega, h3⟩
theorem two_word {word : List UInt8} (h : word.length = 2) : ∃ a b, word = [a, b] := by
  match word, h with
  | [a, b], _ => exact ⟨a, b, rfl⟩

set_option maxRecDepth 100000 in
theorem over_is (c : Cmd) (hc : chk c = 0) (v : Value) (ls : List (List UInt8)) (w : World) (B : Nat) (hB0 : 1 < B) (hB : B ≤ w.heap.size) (hown : w.ownsRow B 9 1 v ls.length (ls.map S)) (hl : ls.length ≤ 300000) (hsz : ∀ s ∈ ls, s.length ≤ 300000) (hK : Known w) :
    Calls Tryd.prog 40 #[c.v, v] w fun e w' => ∃ r, e = .returned r ∧ Reads w' r (made c ls).length ((made c ls).map S) ∧ Below B w w' := by
  have hk := chk_kinds c hc
  have hnum := chk_num hc
  have hsw := chk_le hc
  obtain ⟨⟨m, hm⟩, htab⟩ := hK
  have hsz' : ∀ s ∈ ls, s.length ≤ 1000000 := fun s hs => Nat.le_trans (hsz s hs) (by omega)
  have hdrop : ∀ {P : World → Value → Prop} , (Calls Tryd.prog 40 #[c.v, v] w fun e w' => ∃ r, e = .returned r ∧ P w' r ∧ Below w.heap.size w w') → (Calls Tryd.prog 40 #[c.v, v] w fun e w' => ∃ r, e = .returned r ∧ P w' r ∧ Below B w w') := by
    intro P h
    refine h.mono ?_
    rintro e w' ⟨r, rfl, h1, h2⟩
    exact ⟨r, rfl, h1, h2.mono hB⟩
  obtain ⟨k, word, n⟩ := c
  have : k = 1 ∨ k = 2 ∨ k = 3 ∨ k = 4 ∨ k = 5 ∨ k = 6 ∨ k = 7 ∨ k = 8 ∨ k = 9 ∨ k = 10 := by simp only at hk; omega
  rcases this with rfl | rfl | rfl | rfl | rfl | rfl | rfl | rfl | rfl | rfl
  · rw [made1 _ rfl]; exact over_keep word n m v ls w B hB0 hB hown hl hsz' hm
  · rw [made2 _ rfl]; exact over_drop word n m v ls w B hB0 hB hown hl hsz' hm
  · rw [made3 _ rfl]
    obtain ⟨a, b, rfl⟩ := two_word (hsw rfl).1
    exact over_swap a b n v ls w B hB hown hl hsz
  · rw [made4 _ rfl]
    obtain ⟨h1, h2⟩ := hnum rfl
    exact over_field ⟨word.toArray⟩ n m v ls w B hB0 hB hown hl hsz h1 h2 hm
  · rw [made5 _ rfl]; exact over_turn ⟨word.toArray⟩ n v ls w B hB hown hl hsz
  · rw [made6 _ rfl]; exact over_sort ⟨word.toArray⟩ n v ls w B hB hown hl
  · rw [made7 _ rfl]; exact over_once ⟨word.toArray⟩ n v ls w B hB hown hl
  · rw [made8 _ rfl]
    obtain ⟨_, ao, cap, rfl, _⟩ := Reads.of_owns hown
    exact hdrop (over_count ⟨word.toArray⟩ n ao ls.length cap w hl (fun W h => tab_below htab h))
  · rw [made9 _ rfl]
    obtain ⟨h1, h2⟩ := hnum rfl
    exact hdrop (over_head ⟨word.toArray⟩ n v ls w B hown hl h1 h2)
  · rw [made10 _ rfl]
    obtain ⟨h1, h2⟩ := hnum rfl
    exact hdrop (over_tail ⟨word.toArray⟩ n v ls w B hown hl h1 h2)

set_option maxRecDepth 100000 in
set_option maxHeartbeats 2000000 in
theorem do_err (c : Cmd) (v : Value) (w : World) (hw : c.word.length ≤ 9223372036854775807) (h : chk c ≠ 0) :
    Calls Tryd.prog 17 #[c.v, v] w fun e w' => e = .returned (.tuple #[.slice none 0 0, .int .i64 (chk c)]) ∧ Below w.heap.size w w' := by
  have hchk := fun W => check_is c W hw
  obtain ⟨k, word, n⟩ := c
  unfold Cmd.v at hchk ⊢
  simp only at hchk ⊢
  generalize (⟨word.toArray⟩ : ByteArray) = sx at *
  generalize chk ⟨k, word, n⟩ = r at *
  go_enter Tryd.func17, Tryd.ntmps17
  go_wp2_with fail
  refine (hchk _).mono ?_
  rintro e w1 ⟨rfl, hb1⟩
  have HB : Hid (Below w.heap.size w w1) := box_of.trans (hb1.mono (by simp))
  clear hb1 hchk
  go_wp2_with fail
  go_ret2
  exact ⟨rfl, HB.out⟩

set_option maxRecDepth 100000 in
set_option maxHeartbeats 2000000 in
theorem do_many (c : Cmd) (v : Value) (nn : Nat) (xs : List Value) (w : World) (hw : c.word.length ≤ 9223372036854775807) (h : chk c = 0) (hr : Reads w v nn xs) (hn : 4000 < nn) :
    Calls Tryd.prog 17 #[c.v, v] w fun e w' => e = .returned (.tuple #[.slice none 0 0, .int .i64 2]) ∧ Below w.heap.size w w' := by
  have hchk := fun W => check_is c W hw
  rw [h] at hchk
  obtain ⟨k, word, n⟩ := c
  unfold Cmd.v at hchk ⊢
  simp only at hchk ⊢
  generalize (⟨word.toArray⟩ : ByteArray) = sx at *
  have HR : Hid (Reads w v nn xs) := hr
  clear hr
  go_enter Tryd.func17, Tryd.ntmps17
  go_wp2_with fail
  refine (hchk _).mono ?_
  rintro e w1 ⟨rfl, hb1⟩
  have HB : Hid (Below w.heap.size w w1) := box_of.trans (hb1.mono (by simp))
  clear hb1 hchk
  go_wp2_with fail
  refine (of_over v nn xs w1 (HR.out.below HB.out) hn).mono ?_
  rintro e w2 ⟨rfl, rfl⟩
  go_wp2_with fail
  go_ret2
  exact ⟨rfl, HB.out⟩

set_option maxRecDepth 100000 in
set_option maxHeartbeats 2000000 in
theorem do_ok (c : Cmd) (v : Value) (bs : List UInt8) (w : World) (hw : c.word.length ≤ 9223372036854775807) (h : chk c = 0) (hr : Reads w v bs.length (bs.map U)) (hn : bs.length ≤ 4000) (hK : Known w) :
    Calls Tryd.prog 17 #[c.v, v] w fun e w' => ∃ r, e = .returned (.tuple #[r, .int .i64 0]) ∧ w'.ownsRow w.heap.size 5 1 r (doOut c bs).length ((doOut c bs).map U) ∧ Below w.heap.size w w' := by
  have hchk := fun W => check_is c W hw
  rw [h] at hchk
  have hover := fun (v : Value) (W : World) (B : Nat) hB0 hB ho hK => over_is c h v (lines bs) W B hB0 hB ho (Nat.le_trans (lines_length bs) (Nat.le_trans hn (by omega))) (fun s hs => Nat.le_trans (lines_short hs hn) (by omega)) hK
  have hlen : (ended (made c (lines bs))).length ≤ 1000000 := by have := doOut_len c h bs (by omega); unfold doOut at this; omega
  have hend := fun (v : Value) (W : World) hr => ended_reads v (made c (lines bs)) W hr hlen
  have hdo : ended (made c (lines bs)) = doOut c bs := rfl
  rw [hdo] at hend
  clear hlen hdo
  generalize doOut c bs = D at *
  generalize made c (lines bs) = M at *
  obtain ⟨k, word, n⟩ := c
  unfold Cmd.v at hchk hover ⊢
  simp only at hchk hover ⊢
  generalize (⟨word.toArray⟩ : ByteArray) = sx at *
  have HR : Hid (Reads w v bs.length (bs.map U)) := hr
  have HO : Hid _ := hover
  have HE : Hid _ := hend
  have HK : Hid (Known w) := hK
  clear hr hover hend hK
  go_enter Tryd.func17, Tryd.ntmps17
  go_wp2_with fail
  refine (hchk _).mono ?_
  rintro e w1 ⟨rfl, hb1⟩
  have HB : Hid (Below w.heap.size w w1) := box_of.trans (hb1.mono (by simp))
  have hbox : w1.cell? ⟨w.heap.size, 0, none⟩ = some (.int .i64 k) ∧ w1.cell? ⟨w.heap.size, 1, none⟩ = some (.string sx) ∧ w1.cell? ⟨w.heap.size, 2, none⟩ = some (.int .i64 n) := by
    refine ⟨?_, ?_, ?_⟩
    all_goals
      rw [hb1.cell (by simp), cell_of_row _ _ _ _ _ _ (heap_alloc_new w _)]
      rfl
  have hsz1 : w.heap.size < w1.heap.size := by have := hb1.size; simp at this; omega
  clear hb1 hchk
  go_wp2_with fail
  refine (of_reads v bs w1 (HR.out.below HB.out) hn).mono ?_
  rintro e w2 ⟨l, rfl, hown, hb2⟩
  obtain ⟨x0, x1, x2⟩ := hbox
  have y0 : w2.cell? ⟨w.heap.size, 0, none⟩ = some (.int .i64 k) := (hb2.cell hsz1).trans x0
  have y1 : w2.cell? ⟨w.heap.size, 1, none⟩ = some (.string sx) := (hb2.cell hsz1).trans x1
  have y2 : w2.cell? ⟨w.heap.size, 2, none⟩ = some (.int .i64 n) := (hb2.cell hsz1).trans x2
  have HW : Hid (w2.ownsRow w1.heap.size 9 1 l (lines bs).length ((lines bs).map S)) := hown
  have HB2 : Hid (Below w1.heap.size w1 w2) := hb2
  clear x0 x1 x2 hown hb2
  go_wp2_with fail
  refine (HO.out l w2 w1.heap.size ?_ HB2.out.size HW.out ((HK.out.below HB.out).below HB2.out)).mono ?_
  · obtain ⟨⟨m, hm⟩, _⟩ := HK.out
    have := World.block_lt_of_cell? w _ hm
    simp only at this
    omega
  rintro e w3 ⟨r3, rfl, hr3, hb3⟩
  have HR3 : Hid _ := hr3
  have HB3 : Hid (Below w1.heap.size w2 w3) := hb3
  clear hr3 hb3 y0 y1 y2
  go_wp2_with fail
  refine (HE.out r3 w3 HR3.out).mono ?_
  rintro e w4 ⟨r4, rfl, hown4, hb4⟩
  have hs3 : w.heap.size ≤ w3.heap.size := by have h1 := HB.out.size; have h2 := HB2.out.size; have h3 := HB3.out.size; omega
  have HO4 : Hid _ := owns_mono hown4 hs3
  have HB4 : Hid (Below w.heap.size w w4) := HB.out.trans ((HB2.out.mono HB.out.size).trans ((HB3.out.mono HB.out.size).trans (hb4.mono hs3)))
  clear hown4 hb4
  go_wp2_with fail
  go_ret2
  exact ⟨_, rfl, HO4.out, HB4.out⟩

/-- Do, whatever it is handed. -/
theorem do_is (c : Cmd) (v : Value) (bs : List UInt8) (w : World) (hw : c.word.length ≤ 9223372036854775807) (hr : Reads w v bs.length (bs.map U)) (hK : Known w) :
    Calls Tryd.prog 17 #[c.v, v] w fun e w' => ∃ r, e = .returned (.tuple #[r, .int .i64 (doErr c bs)]) ∧ (doErr c bs ≠ 0 → r = .slice none 0 0) ∧ (doErr c bs = 0 → w'.ownsRow w.heap.size 5 1 r (doOut c bs).length ((doOut c bs).map U)) ∧ Below w.heap.size w w' := by
  by_cases h : chk c = 0
  · by_cases hn : bs.length ≤ 4000
    · have e0 : doErr c bs = 0 := by unfold doErr; rw [if_neg (by simp [h]), if_neg (by omega)]
      rw [e0]
      refine (do_ok c v bs w hw h hr hn hK).mono ?_
      rintro e w' ⟨r, rfl, h1, h2⟩
      exact ⟨r, rfl, fun h => absurd rfl h, fun _ => h1, h2⟩
    · have e0 : doErr c bs = 2 := by unfold doErr; rw [if_neg (by simp [h]), if_pos (by omega)]
      rw [e0]
      refine (do_many c v bs.length _ w hw h hr (by omega)).mono ?_
      rintro e w' ⟨rfl, h2⟩
      exact ⟨_, rfl, fun _ => rfl, fun h => absurd h (by decide), h2⟩
  · have e0 : doErr c bs = chk c := by unfold doErr; rw [if_pos h]
    rw [e0]
    refine (do_err c v w hw h).mono ?_
    rintro e w' ⟨rfl, h2⟩
    exact ⟨_, rfl, fun _ => rfl, fun h' => absurd h' h, h2⟩
end Go.Proofs.YtkifihcficobnaaDoor
