/- What line.ended does: the lines one behind the other, each ended by a line feed. -/
import Derived.Test.YtkifihcficobnaaDoorOf
import Derived.Lib.AppendStr
namespace Go.Proofs.YtkifihcficobnaaDoor
open Go.RowKit Go.Gs Go.Lib
set_option linter.unusedVariables false

theorem infoU8 : (Tryd.prog.info? 5).map (fun i => (i.zero, i.size, i.bytes)) = some (some (.int .u8 0), 1, 1) := by kernel_rfl

set_option maxRecDepth 100000 in
set_option maxHeartbeats 400000 in
theorem ended_none (ao : Option Addr) (cap : Nat) (w : World) :
    Calls Tryd.prog 32 #[.slice ao 0 cap] w fun e w' => e = .returned (.slice none 0 0) ∧ w' = w := by
  go_enter Tryd.func32, Tryd.ntmps32
  go_wp2
  go_loopw [3, 8] (fun v3 i wr => v3 = .slice none 0 0 ∧ i = .int .i64 0 ∧ wr = w) (fun _ _ _ => 0)
  case atStart => exact ⟨rfl, rfl, rfl⟩
  case round =>
    obtain ⟨rfl, rfl, rfl⟩ := hrel
    go_wp2
    go_ret
    exact ⟨rfl, rfl⟩

theorem ended_take_succ (ls : List (List UInt8)) (k : Nat) (h : k < ls.length) : ended (ls.take (k + 1)) = ended (ls.take k) ++ ls[k] ++ [10] := by
  rw [List.take_succ_eq_append_getElem h, ended_append]
  simp [ended]

theorem ended_take_le (ls : List (List UInt8)) (k : Nat) : (ended (ls.take k)).length ≤ (ended ls).length := by
  have := ended_length_sub ls 0 k
  simpa using this

/-- What the two appends of a round leave. -/
theorem rel_end {w wr w1 w2 : World} {v v1 v2 : Value} {n : Nat} {E l : List UInt8} {o : Obj}
    (hown : wr.ownsRow w.heap.size 5 1 v n (E.map U)) (hbel : Below w.heap.size w wr)
    (hown1 : w1.ownsRow w.heap.size 5 1 v1 (n + l.length) (E.map U ++ l.map U)) (hgrow1 : wr.grownBy w1 v.ownBlock)
    (hown2 : w2.ownsRow w.heap.size 5 1 v2 (n + l.length + 1) (E.map U ++ (l.map U ++ [.int .u8 10]))) (hgrow2 : (w1.alloc o).grownBy w2 v1.ownBlock) :
    w2.ownsRow w.heap.size 5 1 v2 (n + l.length + 1) ((E ++ l ++ [10]).map U) ∧ Below w.heap.size w w2 := by
  have hb1 : Below w.heap.size w w1 := hbel.grown hgrow1 (by have := hbel.size; omega) (fun k hk => (hown.lt k hk).1)
  refine ⟨by simpa [U] using hown2, ?_⟩
  exact (hb1.alloc (by have := hb1.size; omega) o).grown hgrow2 (by have := hb1.size; simp; omega) (fun k hk => (hown1.lt k hk).1)

set_option maxRecDepth 100000 in
set_option maxHeartbeats 1000000 in
theorem ended_some (b off cap : Nat) (ls : List (List UInt8)) (w : World) (h0 : 0 < ls.length) (hle : (ended ls).length ≤ 1000000)
    (hc : ∀ j u, (ls.map S)[j]? = some u → w.cell? ⟨b, off + j, none⟩ = some u) :
    Calls Tryd.prog 32 #[.slice (some ⟨b, off, none⟩) ls.length cap] w fun e w' => ∃ r, e = .returned r ∧
      w'.ownsRow w.heap.size 5 1 r (ended ls).length ((ended ls).map U) ∧ Below w.heap.size w w' := by
  obtain ⟨i0, hi, hz0, hz1, hz2⟩ := info_parts infoU8
  have hbB : b < w.heap.size := World.block_lt_of_cell? w _ (hc 0 (S ls[0]) (by simp [h0]))
  have hnl : ls.length ≤ 1000000 := Nat.le_trans (ended_length_ge ls) hle
  generalize hn : ls.length = n at *
  go_enter Tryd.func32, Tryd.ntmps32
  go_wp2
  go_loopw [3, 8] (fun v3 i wr => ∃ (k m : Nat), k ≤ n ∧ i = .int .i64 k ∧ Hid (m = (ended (ls.take k)).length) ∧ wr.ownsRow w.heap.size 5 1 v3 m ((ended (ls.take k)).map U) ∧ Below w.heap.size w wr)
    (fun _ i _ => n - (intOf i).toNat)
  case atStart => exact ⟨0, 0, Nat.zero_le _, rfl, by simp [Hid, ended], by simpa [ended] using World.ownsRow_nil _ _ _ _, Below.refl _ _⟩
  case round =>
    obtain ⟨k, m, hk, rfl, hm, hown, hbel⟩ := hrel
    by_cases hlt : k < n
    · have hcell : wr.cell? ⟨b, off + k, none⟩ = some (.string ⟨(ls[k]'(by omega)).toArray⟩) := (hbel.cell (by exact hbB)).trans (hc k _ (by simp [S, hn, hlt]))
      have Hs : Hid _ := ended_take_succ ls k (by omega)
      have hle1 := ended_take_le ls (k + 1)
      have hlen : m + (ls[k]'(by omega)).length + 1 ≤ 1000000 := by
        rw [Hs.out] at hle1
        simp only [List.length_append, List.length_cons, List.length_nil, hm.out] at *
        omega
      clear hle1 hc
      generalize hl : ls[k]'(by omega) = l at *
      have Hl : Hid _ := hl
      clear hl
      obtain ⟨sx, hsx⟩ : ∃ sx : ByteArray, sx = ⟨l.toArray⟩ := ⟨_, rfl⟩
      have hsz : sx.size = l.length := by rw [hsx]; simp [ByteArray.size]
      have hcs : strCells sx = l.map U := by rw [hsx]; simp [strCells, U]
      rw [← hsx] at hcell
      have Hsx : Hid _ := hsx
      have Hsz : Hid _ := hsz
      have Hcs : Hid _ := hcs
      have hb63 : m + sx.size + 1 ≤ 1000000 := by omega
      clear hsx hsz hcs
      generalize hE : (ended (ls.take k)) = E at *
      have HE : Hid _ := hE
      clear hE
      have hsz0 := hbel.size
      go_wp2_with (first | (at_builtin; refine wpList_append_own_string _ rfl (.tmp 12) (.tmp 13) 22 9 rfl w.heap.size 5 i0 Tryd.underlying22 Tryd.underlying9 hi hz0 hz1 hz2 _ _ _ rfl hown sx rfl (by unfold maxLen; omega) (by omega) (by omega) ?_; intro v1 w1 hown1 hgrow1 _) | (at_builtin; refine wpList_append_own _ rfl (.tmp 15) (.tmp 16) 22 rfl w.heap.size 5 i0 (.int .u8 0) 1 1 Tryd.underlying22 hi hz0 hz1 hz2 rfl (by decide) _ _ _ rfl (hown1.alloc _) ⟨w1.heap.size, 0, none⟩ 1 1 [.int .u8 10] rfl rfl ?c1 ?c2 ?c3 ?c4 ?c5 ?_))
      case c1 =>
        intro j u hj
        match j, hj with
        | 0, hj => simp at hj; subst hj; simp [Addr.add]
      case c2 => intro u hu; simp at hu; subst hu; rfl
      case c3 => unfold maxLen; omega
      case c4 => omega
      case c5 => have := hgrow1.size; simp; omega
      · intro v2 w2 hown2 hgrow2 _
        rw [Hcs.out, Hsz.out] at hown1 hown2
        have R := rel_end hown hbel hown1 hgrow1 hown2 hgrow2
        rw [← Hs.out] at R
        have hm2 : m + l.length + 1 = (ended (ls.take (k + 1))).length := by rw [Hs.out, hm.out]; simp; omega
        have Hm2 : Hid _ := hm2
        clear hm2 hown1 hown2 hgrow1 hgrow2 hown hbel hcell
        go_wp2
        go_roundw
        case rel => exact ⟨k + 1, m + l.length + 1, by omega, by go_num, Hm2, R.1, R.2⟩
        case measure => simp [intOf]; omega
    · have hkn : k = n := by omega
      subst hkn
      subst hn
      rw [List.take_length] at hm hown
      clear hc
      go_wp2
      go_ret
      rw [hm.out] at hown
      exact ⟨_, rfl, hown, hbel⟩

theorem ended_reads (v : Value) (ls : List (List UInt8)) (w : World) (hr : Reads w v ls.length (ls.map S)) (hle : (ended ls).length ≤ 1000000) :
    Calls Tryd.prog 32 #[v] w fun e w' => ∃ r, e = .returned r ∧
      w'.ownsRow w.heap.size 5 1 r (ended ls).length ((ended ls).map U) ∧ Below w.heap.size w w' := by
  obtain ⟨_, ao, cap, rfl, h2, h3, h4⟩ := hr
  by_cases h0 : ls.length = 0
  · have hb : ls = [] := List.eq_nil_of_length_eq_zero h0
    subst hb
    refine (ended_none ao cap w).mono ?_
    rintro e w' ⟨rfl, rfl⟩
    exact ⟨_, rfl, by simpa [ended] using World.ownsRow_nil _ _ _ _, Below.refl _ _⟩
  · obtain ⟨b, off, rfl, hc⟩ := h4 h0
    exact ended_some b off cap ls w (by omega) hle hc
end Go.Proofs.YtkifihcficobnaaDoor
