/- What the reference's Made does to lines: Swap. What the reference's Made does to lines, whatever the kind. -/
import Derived.Test.YtkifihcficobnaaGreatDoorMadeF
import Derived.Test.YtkifihcficobnaaGreatDoorOverE
import Derived.BigQuiet
import Derived.Deep.QuietTactic
import Derived.Test.YtkifihcficobnaaGreatDoorPlainF
import Derived.Test.YtkifihcficobnaaGreatDoorOverF
namespace Go.Proofs.YtkifihcficobnaaGreatDoor
open Go.RowKit Go.Gs
set_option linter.unusedVariables false

theorem conv_facts (w : World) (sx : ByteArray) (x : List UInt8) (hsx : Value.string sx = S x) (hx : x.length ≤ 900000) :
    Sort.Holds U (w.alloc (.cells (bytesRow sx (grownCap w sx.size 0 5)) 5 ((bytesRow sx (grownCap w sx.size 0 5)).size, (bytesRow sx (grownCap w sx.size 0 5)).size + 1))).drew w.heap.size 0 x.toArray ∧
    Below w.heap.size w (w.alloc (.cells (bytesRow sx (grownCap w sx.size 0 5)) 5 ((bytesRow sx (grownCap w sx.size 0 5)).size, (bytesRow sx (grownCap w sx.size 0 5)).size + 1))).drew ∧
    x.length ≤ grownCap w sx.size 0 5 ∧ grownCap w sx.size 0 5 ≤ maxLen := by
  have hs : sx.size = x.length := sx_size hsx
  have hd : sx.data.toList = x := sx_data hsx
  have hc1 : x.length ≤ grownCap w sx.size 0 5 := by rw [← hs]; exact grownCap_ge _ _ _ _
  have hc2 : grownCap w sx.size 0 5 ≤ maxLen := grownCap_le_maxLen _ _ _ _ (by rw [hs]; unfold maxLen; omega)
  have hrow : x.length ≤ (bytesRow sx (grownCap w sx.size 0 5)).size := by
    unfold bytesRow
    have : sx.data.size = x.length := hs
    simp
    omega
  exact ⟨holds_conv w sx _ _ x hd hrow hc1, ((Below.refl _ w).alloc (Nat.le_refl _) _).drew, hc1, hc2⟩
theorem holds_drewN {W : World} {b k : Nat} {d : Array UInt8} (h : Sort.Holds U W b 0 d) : Sort.Holds U (W.drewN k) b 0 d := by
  intro j hj
  obtain ⟨h1, h2⟩ := h j hj
  exact ⟨by simpa using h1, by simpa using h2⟩

set_option maxRecDepth 100000 in
set_option maxHeartbeats 2000000 in
theorem made_swap (al : Option Addr) (cl : Nat) (n : Int) (ls : List (List UInt8)) (w : World) (hl : Reads w (.slice al ls.length cl) ls.length (ls.map S)) (hLm : ls.length ≤ 900000) (hsz : ∀ s ∈ ls, s.length ≤ 900000) (a c : UInt8) (f : Nat → Option (List UInt8)) (hf : ∀ i s, ls[i]? = some s → f i = some (swapOf a c s)) :
    Calls Tryz.prog 20 #[.agg #[.int .i64 3, .string ⟨#[a, c]⟩, .int .i64 n], .slice al ls.length cl] w fun e w' => ∃ r, e = .returned r ∧ w'.ownsRow (w.heap.size + 1) 9 1 r (M f ls.length).length ((M f ls.length).map S) ∧ Below w.heap.size w w' := by
  obtain ⟨i0, hi, hz0, hz1, hz2⟩ := info_parts infoStr
  have Hl : Hid _ := hl
  obtain ⟨-, al', cl', e4, -, -, hl5⟩ := hl
  simp only [Value.slice.injEq, true_and] at e4
  obtain ⟨rfl, rfl⟩ := e4
  generalize hL : ls.length = L at *
  go_enter Tryz.func20, Tryz.ntmps20
  go_wp2_with fail
  go_loopw [5, 16] (fun v5 i wr => ∃ k : Nat, k ≤ L ∧ i = .int .i64 k ∧ wr.ownsRow (w.heap.size + 1) 9 1 v5 (M f k).length ((M f k).map S) ∧ Below (w.heap.size + 1) (w.alloc (.cells #[.int .i64 3, .string ⟨#[a, c]⟩, .int .i64 n] 23)) wr)
    (fun _ i _ => L - (intOf i).toNat)
  case atStart => exact ⟨0, Nat.zero_le _, rfl, by rw [M_zero]; exact World.ownsRow_nil _ _ _ _, Below.refl _ _⟩
  case round =>
    obtain ⟨k, hk, rfl, hown, hbel⟩ := hrel
    obtain ⟨bx0, bx1, bx2⟩ := box_cells' hbel
    have hMl := M_len f k
    by_cases hlt : k < L
    · obtain ⟨b, off, rfl, hc⟩ := hl5 (by omega)
      have hcell0 : wr.cell? ⟨b, off + k, none⟩ = some (.string ⟨(ls[k]'(by omega)).toArray⟩) := ((below_box' hbel).cell (World.block_lt_of_cell? w _ (hc k (S (ls[k]'(by omega))) (by simp [hL, hlt])))).trans (hc k _ (by simp [S, hL, hlt]))
      have hfk := hf k (ls[k]'(by omega)) (List.getElem?_eq_getElem _)
      have hsk : (ls[k]'(by omega)).length ≤ 900000 := hsz _ (List.getElem_mem _)
      have Hf : Hid _ := M_some hfk
      generalize hlk : ls[k]'(by omega) = l at *
      obtain ⟨sx, hsx, hcell⟩ : ∃ sx : ByteArray, Hid (Value.string sx = S l) ∧ wr.cell? ⟨b, off + k, none⟩ = some (.string sx) := ⟨⟨l.toArray⟩, rfl, hcell0⟩
      have hsl : sx.size = l.length := sx_size hsx.out
      have HV : Hid _ := conv_facts wr sx l hsx.out hsk
      have hws : w.heap.size + 1 ≤ wr.heap.size := by have := hbel.size; simpa using this
      clear hc hl5 hcell0 hfk hf hlk
      obtain ⟨w5, hw5⟩ : ∃ w5, w5 = wr := ⟨_, rfl⟩
      subst hw5
      have hcvb := run_bytes_of_string (P := Tryz.prog) w5 9 24 5 sx Tryz.underlying9 Tryz.underlying24 Tryz.underlying5
      go_wp2_with fail
      clear hcvb
      obtain ⟨hv1, hv2, hv3, hv4⟩ := HV.out
      rw [hsl] at hv1 hv2 hv3 hv4
      clear HV
      generalize hcap : grownCap w5 l.length 0 5 = cap at *
      have hcm' : cap ≤ 9223372036854775807 := by simpa [maxLen] using hv4
      have HV1 : Hid _ := hv1
      have HV2 : Hid _ := hv2
      clear hv1 hv2 hcap
      go_loopw [42] (fun i w2 => ∃ j : Nat, j ≤ l.length ∧ i = .int .i64 j ∧ Hid (Sort.Holds U w2 w5.heap.size 0 ((l.take j).map (fun y => if y = a then c else y) ++ l.drop j).toArray) ∧ Hid (Below w5.heap.size w5 w2)) (fun i _ => l.length - (intOf i).toNat)
      case atStart => exact ⟨0, Nat.zero_le _, rfl, HV1.out, HV2.out⟩
      case round =>
        obtain ⟨j, hj, rfl, hh, hb2⟩ := hrel
        have cx0 : wr.cell? ⟨w.heap.size, 0, none⟩ = some (.int .i64 3) := (hb2.out.cell (by exact hws)).trans bx0
        have cx1 : wr.cell? ⟨w.heap.size, 1, none⟩ = some (.string ⟨#[a, c]⟩) := (hb2.out.cell (by exact hws)).trans bx1
        have cx2 : wr.cell? ⟨w.heap.size, 2, none⟩ = some (.int .i64 n) := (hb2.out.cell (by exact hws)).trans bx2
        by_cases hjl : j < l.length
        · have hget := hh.out j (by simp only [List.size_toArray]; simp; omega)
          have hce : wr.cell? ⟨w5.heap.size, j, none⟩ = some (U l[j]) := by
            have := hget.1
            rw [Nat.zero_add] at this
            rw [this]
            simp only [List.getElem!_toArray]
            rw [List.getElem!_eq_getElem?_getD, swap_get a c l j hjl]
            rfl
          have hfro : wr.frozen? ⟨w5.heap.size, j, none⟩ = false := by have := hget.2; rwa [Nat.zero_add] at this
          clear hget hcell bx0 bx1 bx2
          unfold U at hce
          by_cases hxa : l[j] = a
          · have HS : Hid _ := swap_step a c l j hjl c (by rw [if_pos hxa])
            have hxe : (l[j].toNat : Int) = (a.toNat : Int) := by rw [hxa]
            rw [hxe] at hce
            clear hxe hxa
            have hg : ((a.toNat : Int) == ((ByteArray.mk #[a, c])[0]'(Nat.succ_pos 1) |>.toNat : Int)) = true := beq_self_eq_true (a.toNat : Int)
            have HN : Hid (∀ q, Sort.Holds U ((wr.drewN q).setCell ⟨w5.heap.size, j, none⟩ (U c)) w5.heap.size 0 ((l.take (j + 1)).map (fun y => if y = a then c else y) ++ l.drop (j + 1)).toArray) := fun q => holds_set (holds_drewN hh.out) HS.out
            have HB : Hid (∀ q, Below w5.heap.size w5 ((wr.drewN q).setCell ⟨w5.heap.size, j, none⟩ (U c))) := fun q => (below_drewN' hb2.out q).setCell (Nat.le_refl _) _
            clear hh hb2 HS
            go_wp2_with fail
            go_quiet (fail)
            go_wp2_with fail
            go_roundw
            case rel => exact ⟨j + 1, by omega, by go_num, HN.out _, HB.out _⟩
            case measure => simp [intOf]; omega
          · have HS : Hid _ := swap_step a c l j hjl l[j] (by rw [if_neg hxa])
            have hset : ((l.take j).map (fun y => if y = a then c else y) ++ l.drop j).set j l[j] = (l.take j).map (fun y => if y = a then c else y) ++ l.drop j := by
              apply List.ext_getElem?
              intro i
              by_cases hi : i = j
              · subst hi
                rw [List.getElem?_set_self (by simp; omega), swap_get a c l i hjl]
              · rw [List.getElem?_set_ne (Ne.symm hi)]
            have hg : ((l[j].toNat : Int) == ((ByteArray.mk #[a, c])[0]'(Nat.succ_pos 1) |>.toNat : Int)) = false := by
              rw [beq_eq_false_iff_ne]
              intro h
              have h' : (l[j].toNat : Int) = (a.toNat : Int) := h
              exact hxa (UInt8.toNat_inj.1 (by omega))
            have HN : Hid (Sort.Holds U wr w5.heap.size 0 ((l.take (j + 1)).map (fun y => if y = a then c else y) ++ l.drop (j + 1)).toArray) := by
              rw [HS.out, hset]
              exact hh.out
            clear hset HS hh
            go_wp2_with fail
            go_quiet (fail)
            go_wp2_with fail
            go_roundw
            case rel => exact ⟨j + 1, by omega, by go_num, holds_drewN HN.out, below_drewN' hb2.out _⟩
            case measure => simp [intOf]; omega
        · have hjL : j = l.length := by omega
          obtain ⟨tx, hnx, hcv⟩ : ∃ tx, Hid (Value.string tx = S (swapOf a c l)) ∧ (convert 24 9 (.slice (some ⟨w5.heap.size, 0, none⟩) l.length cap)).run Tryz.prog wr = .ok (.string tx) wr := by
            have h1 := hh.out
            rw [hjL, List.take_length, List.drop_length, List.append_nil] at h1
            have h2 := reads_holds (x := l.map (fun y => if y = a then c else y)) (cap := cap) h1 (by simp; omega) hv4
            have h3 := conv_any h2
            rw [List.length_map] at h3
            exact ⟨_, rfl, h3⟩
          have HO : Hid _ := owns_below hown hb2.out
          have HBB : Hid (Below (w.heap.size + 1) (w.alloc (.cells #[.int .i64 3, .string ⟨#[a, c]⟩, .int .i64 n] 23)) wr) := hbel.trans (hb2.out.mono hws)
          have hwr : w.heap.size + 1 ≤ wr.heap.size := by have := HBB.out.size; simpa using this
          clear hown hbel hh hb2 hcell bx0 bx1 bx2
          have hown := HO.out
          have hbel := HBB.out
          clear HO HBB
          go_wp2_with ((at_builtin; refine wpList_append_own _ rfl (.tmp 125) (.tmp 127) 34 rfl (w.heap.size + 1) 9 i0 (.string ⟨#[]⟩) 1 16 Tryz.underlying34 hi hz0 hz1 hz2 rfl (by decide) _ _ _ rfl (World.ownsRow.alloc hown _) ⟨wr.heap.size, 0, none⟩ 1 1 [.string tx] rfl rfl ?c1 ?c2 ?c3 ?c4 ?c5 ?_))
          case c1 =>
            intro j u hj
            match j, hj with
            | 0, hj => simp at hj; subst hj; simp [Addr.add]
          case c2 => intro u hu; simp at hu; subst hu; rfl
          case c3 => unfold maxLen; omega
          case c4 => omega
          case c5 => have := hbel.size; simp at this; simp; omega
          · intro v' w1 hown' hgrow _
            have R : Hid _ := made_app hown hbel hnx.out hown' hgrow
            clear hown' hgrow hown hbel hcv
            go_wp2_with fail
            go_roundw
            case rel => exact ⟨k + 1, by omega, by go_num, by rw [Hf.out]; exact R.out.1, R.out.2⟩
            case measure => simp [intOf]; omega
    · clear hl5
      have hkn : k = L := by omega
      subst hkn
      have HB : Hid _ := below_box' hbel
      clear hbel
      go_wp2_with fail
      go_ret
      exact ⟨_, rfl, hown, HB.out⟩
end Go.Proofs.YtkifihcficobnaaGreatDoor
namespace Go.Proofs.YtkifihcficobnaaGreatDoor
open Go.RowKit Go.Gs
set_option linter.unusedVariables false

theorem made_ref (c : Cmd) (hc : chk c = 0) (v : Value) (ls : List (List UInt8)) (w : World) (hl0 : Reads w v ls.length (ls.map S)) (hLm : ls.length ≤ 900000) (hsz : ∀ s ∈ ls, s.length ≤ 900000) (hsh : w.ShapedOpen Tryz.prog) (hK : Known w) :
    Calls Tryz.prog 20 #[c.v, v] w fun e w' => ∃ r, e = .returned r ∧ Reads w' r (made c ls).length ((made c ls).map S) ∧ Below w.heap.size w w' := by
  have hk := chk_kinds c hc
  have hnum := chk_num hc
  have hsw := chk_le hc
  obtain ⟨⟨m, hm⟩, htab⟩ := hK
  obtain ⟨_, al, cl, rfl, _⟩ := id hl0
  obtain ⟨k, word, n⟩ := c
  unfold Cmd.v
  have own : ∀ (f : Nat → Option (List UInt8)) (D : List (List UInt8)) {args : Array Value}, (List.range ls.length).filterMap f = D →
      (Calls Tryz.prog 20 args w fun e w' => ∃ r, e = .returned r ∧ w'.ownsRow (w.heap.size + 1) 9 1 r (M f ls.length).length ((M f ls.length).map S) ∧ Below w.heap.size w w') →
      (Calls Tryz.prog 20 args w fun e w' => ∃ r, e = .returned r ∧ Reads w' r D.length (D.map S) ∧ Below w.heap.size w w') := by
    intro f D args hD h
    refine h.mono ?_
    rintro e w' ⟨r, rfl, h1, h2⟩
    have : M f ls.length = D := hD
    rw [this] at h1
    exact ⟨r, rfl, Reads.of_owns h1, h2⟩
  have : k = 1 ∨ k = 2 ∨ k = 3 ∨ k = 4 ∨ k = 5 ∨ k = 6 ∨ k = 7 ∨ k = 8 ∨ k = 9 ∨ k = 10 := by simp only at hk; omega
  rcases this with rfl | rfl | rfl | rfl | rfl | rfl | rfl | rfl | rfl | rfl
  · rw [made1 _ rfl]
    have hf : ∀ (i : Nat) s, ls[i]? = some s → (fun i : Nat => (ls[i]?).bind fun s => if Lib.contains s word = true then some s else none) i = if Lib.contains s word = true then some s else none := by intro i s h; simp [h]
    exact own _ _ (fm_filter ls (fun s => Lib.contains s word) _ hf) (made_keep al cl word n ls w hl0 hLm hsz _ hsh hf)
  · rw [made2 _ rfl]
    have hf : ∀ (i : Nat) s, ls[i]? = some s → (fun i : Nat => (ls[i]?).bind fun s => if ¬ Lib.contains s word = true then some s else none) i = if ¬ Lib.contains s word = true then some s else none := by intro i s h; simp [h]
    exact own _ _ (fm_filter ls (fun s => !Lib.contains s word) _ (fun i s h => (hf i s h).trans (by simp))) (made_drop al cl word n ls w hl0 hLm hsz _ hsh hf)
  · rw [made3 _ rfl]
    obtain ⟨a, b, rfl⟩ := two_word (hsw rfl).1
    have hf : ∀ (i : Nat) s, ls[i]? = some s → (fun i : Nat => (ls[i]?).map (swapOf a b)) i = some (swapOf a b s) := by intro i s h; simp [h]
    exact own _ _ (fm_map ls (swapOf a b) _ hf) (made_swap al cl n ls w hl0 hLm hsz a b _ hf)
  · rw [made4 _ rfl]
    obtain ⟨h1, h2⟩ := hnum rfl
    have hf : ∀ (i : Nat) s, ls[i]? = some s → (fun i : Nat => (ls[i]?).map (fieldOf n)) i = some (fieldOf n s) := by intro i s h; simp [h]
    exact own _ _ (fm_map ls (fieldOf n) _ hf) (made_field al cl word n ls w hl0 hLm hsz m hm h1 h2 _ hf)
  · rw [made5 _ rfl]
    have hf : ∀ (i : Nat) s, ls[i]? = some s → (fun i : Nat => (ls[i]?).map List.reverse) i = some s.reverse := by intro i s h; simp [h]
    exact own _ _ (fm_map ls List.reverse _ hf) (made_turn al cl word n ls w hl0 hLm hsz _ hf)
  · rw [made6 _ rfl]
    have hf : ∀ (i : Nat) s, ls[i]? = some s → (fun i : Nat => ls[i]?) i = some s := by intro i s h; simpa using h
    have hM : M (fun i : Nat => ls[i]?) ls.length = ls := by have := fm_map ls id _ hf; rw [List.map_id] at this; exact this
    have h := made_sort al cl word n ls w hl0 hLm hsz _ hf
    rw [hM] at h
    exact h
  · rw [made7 _ rfl]
    have hf : ∀ (i : Nat) s, ls[i]? = some s → (fun i : Nat => (ls[i]?).bind fun s => if i = 0 ∨ ls[i - 1]? ≠ some s then some s else none) i = if i = 0 ∨ ls[i - 1]? ≠ some s then some s else none := by intro i s h; simp [h]
    exact own _ _ (fm_once ls _ hf) (made_once al cl word n ls w hl0 hLm hsz _ hf)
  · rw [made8 _ rfl]
    exact made_count al cl word n ls w hl0 hLm hsz (fun _ => none) (fun _ _ _ => rfl) htab
  · rw [made9 _ rfl]
    have hf : ∀ (i : Nat) s, ls[i]? = some s → (fun i : Nat => (ls[i]?).bind fun s => if (i : Int) < n then some s else none) i = if (i : Int) < n then some s else none := by intro i s h; simp [h]
    exact own _ _ (fm_head ls n _ hf) (made_head al cl word n ls w hl0 hLm hsz _ hf)
  · rw [made10 _ rfl]
    obtain ⟨h1, h2⟩ := hnum rfl
    have hf : ∀ (i : Nat) s, ls[i]? = some s → (fun i : Nat => (ls[i]?).bind fun s => if (ls.length : Int) - n ≤ (i : Int) then some s else none) i = if (ls.length : Int) - n ≤ (i : Int) then some s else none := by intro i s h; simp [h]
    exact own _ _ (fm_tail ls n (by simp only at h1; omega) _ hf) (made_tail al cl word n ls w hl0 hLm hsz _ h1 h2 hf)
end Go.Proofs.YtkifihcficobnaaGreatDoor
