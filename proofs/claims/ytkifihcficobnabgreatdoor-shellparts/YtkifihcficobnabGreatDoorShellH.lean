/- What line.Bytes does, for every slice of strings. What Gather does. -/
import Derived.Test.YtkifihcficobnabGreatDoorOfE
import Derived.Test.YtkifihcficobnabGreatDoorShelf
import Derived.Test.YtkifihcficobnabGreatDoorShellF
import Derived.Laws.AppendOwnNone
namespace Go.Proofs.YtkifihcficobnabGreatDoor
open Go.RowKit Go.Gs
set_option linter.unusedVariables false

theorem indexByte_feed (l : List UInt8) : (0 ≤ Lib.indexByte l 10 ↔ (10 : UInt8) ∈ l) := by
  induction l with
  | nil => simp [Lib.indexByte]
  | cons c l ih =>
    unfold Lib.indexByte
    by_cases h : c = 10
    · simp [h]
    · have hb : (c == 10) = false := by simp [h]
      have hg := Lib.indexByte_ge l 10
      have hm : (10 : UInt8) ∈ c :: l ↔ (10 : UInt8) ∈ l := by
        rw [List.mem_cons]
        exact ⟨fun k => k.resolve_left (fun e => h e.symm), Or.inr⟩
      rw [hm, ← ih, hb]
      by_cases hi : Lib.indexByte l 10 = -1
      · simp [hi]
      · have hb2 : (Lib.indexByte l 10 == -1) = false := by simp [hi]
        rw [hb2]
        simp only [Bool.false_eq_true, if_false]
        omega

theorem bad_step (ls : List (List UInt8)) (k room : Nat) (h : k < ls.length) : bad room (ls.drop k) = if (10 : UInt8) ∈ ls[k] then 4 else if room ≤ ls[k].length then 2 else bad (room - (ls[k].length + 1)) (ls.drop (k + 1)) := by
  rw [List.drop_eq_getElem_cons h, bad]

set_option maxRecDepth 100000 in
set_option maxHeartbeats 400000 in
theorem bytes_none (ao : Option Addr) (cap : Nat) (w : World) :
    Calls Tryz.prog 66 #[.slice ao 0 cap] w fun e w' => e = .returned (.tuple #[.slice none 0 0, .int .i64 0]) ∧ w' = w := by
  go_enter Tryz.func66, Tryz.ntmps66
  go_wp2
  go_loopw [4, 9] (fun v3 i wr => v3 = .int .i64 4000 ∧ i = .int .i64 0 ∧ wr = w) (fun _ _ _ => 0)
  case atStart => exact ⟨rfl, rfl, rfl⟩
  case round =>
    obtain ⟨rfl, rfl, rfl⟩ := hrel
    go_wp2_with (go_at_call 103; refine (ended_none _ _ _).mono ?_; rintro e w' ⟨rfl, rfl⟩)
    go_ret2
    exact ⟨rfl, rfl⟩

set_option maxRecDepth 100000 in
set_option maxHeartbeats 1000000 in
theorem bytes_some (b off cap : Nat) (ls : List (List UInt8)) (w : World) (h0 : 0 < ls.length) (hcap : ls.length ≤ cap) (hcm : cap ≤ 9223372036854775807)
    (hc : ∀ j u, (ls.map S)[j]? = some u → w.cell? ⟨b, off + j, none⟩ = some u) (hsz : ∀ s ∈ ls, s.length ≤ 9223372036854775807) :
    Calls Tryz.prog 66 #[.slice (some ⟨b, off, none⟩) ls.length cap] w fun e w' =>
      (bad 4000 ls ≠ 0 ∧ e = .returned (.tuple #[.slice none 0 0, .int .i64 (bad 4000 ls)]) ∧ w' = w) ∨
      (bad 4000 ls = 0 ∧ ∃ r, e = .returned (.tuple #[r, .int .i64 0]) ∧ w'.ownsRow w.heap.size 5 1 r (ended ls).length ((ended ls).map U) ∧ Below w.heap.size w w') := by
  have hrd : Reads w (.slice (some ⟨b, off, none⟩) ls.length cap) ls.length (ls.map S) := ⟨by simp, _, cap, rfl, hcap, by simpa [maxLen] using hcm, fun _ => ⟨b, off, rfl, hc⟩⟩
  have Hrd : Hid _ := hrd
  clear hrd
  generalize hn : ls.length = n at *
  go_enter Tryz.func66, Tryz.ntmps66
  go_wp2
  go_loopw [4, 9] (fun t i wr => ∃ (k room : Nat), k ≤ n ∧ room ≤ 4000 ∧ i = .int .i64 k ∧ t = .int .i64 room ∧ wr = w ∧ Hid (bad 4000 ls = bad room (ls.drop k)))
    (fun _ i _ => n - (intOf i).toNat)
  case atStart => exact ⟨0, 4000, Nat.zero_le _, Nat.le_refl _, rfl, rfl, rfl, rfl⟩
  case round =>
    obtain ⟨k, room, hk, hroom, rfl, rfl, rfl, hbad⟩ := hrel
    by_cases hlt : k < n
    · have hcell := hc k (S (ls[k]'(by omega))) (by simp [hn, hlt])
      unfold S at hcell
      have hstep : Hid _ := bad_step ls k room (by omega)
      have hszk := hsz (ls[k]'(by omega)) (List.getElem_mem _)
      have hix := indexByte_feed (ls[k]'(by omega))
      clear hc hsz
      generalize hl : ls[k]'(by omega) = l at *
      have Hl : Hid _ := hl
      clear hl
      obtain ⟨sx, hsx⟩ : ∃ sx : ByteArray, sx = ⟨l.toArray⟩ := ⟨_, rfl⟩
      have hsz : sx.size = l.length := by rw [hsx]; simp [ByteArray.size]
      have hcall : ∀ w, Calls Tryz.prog 106 #[.string sx, .int .u8 10] w fun e w' => e = .returned (.int .i64 (Lib.indexByte l 10)) ∧ w' = w := by
        intro w
        have := Tryz.strings_IndexByte sx 10 w
        rw [hsx] at this ⊢
        exact this
      rw [← hsx] at hcell
      rw [← hsz] at hszk
      have Hsz : Hid _ := hsz
      have Hcall : Hid _ := hcall
      clear hsx hsz hcall
      by_cases hf : (10 : UInt8) ∈ l
      · have hi0 := hix.2 hf
        generalize Lib.indexByte l 10 = ix at *
        have Hb : Hid (bad 4000 ls = 4) := by show _ = _; rw [hbad.out, hstep.out, if_pos hf]
        clear hix hstep hbad hf
        go_wp2_with (go_at_call 106; refine (Hcall.out _).mono ?_; rintro e w' ⟨rfl, rfl⟩)
        go_ret2
        exact Or.inl ⟨by rw [Hb.out]; decide, by rw [Hb.out]; rfl, rfl⟩
      · have hi0 : ¬ 0 ≤ Lib.indexByte l 10 := fun h => hf (hix.1 h)
        generalize Lib.indexByte l 10 = ix at *
        by_cases hlr : room ≤ l.length
        · have Hb : Hid (bad 4000 ls = 2) := by show _ = _; rw [hbad.out, hstep.out, if_neg hf, if_pos hlr]
          have hlr' : room ≤ sx.size := by rw [Hsz.out]; exact hlr
          clear hix hstep hbad hf hlr
          go_wp2_with (go_at_call 106; refine (Hcall.out _).mono ?_; rintro e w' ⟨rfl, rfl⟩)
          go_ret2
          exact Or.inl ⟨by rw [Hb.out]; decide, by rw [Hb.out]; rfl, rfl⟩
        · have Hb : Hid (bad 4000 ls = bad (room - (sx.size + 1)) (ls.drop (k + 1))) := by show _ = _; rw [Hsz.out, hbad.out, hstep.out, if_neg hf, if_neg hlr]
          have hlr' : sx.size < room := by rw [Hsz.out]; omega
          clear hix hstep hbad hf hlr
          go_wp2_with (go_at_call 106; refine (Hcall.out _).mono ?_; rintro e w' ⟨rfl, rfl⟩)
          go_roundw
          case rel => exact ⟨k + 1, room - (sx.size + 1), by omega, by omega, by go_num, by go_num, (by first | exact rfl | trivial), Hb⟩
          case measure => simp [intOf]; omega
    · have hkn : k = n := by omega
      subst hkn
      subst hn
      have Hb : Hid (bad 4000 ls = 0) := by show _ = _; rw [hbad.out]; simp [bad]
      have Hle : Hid _ := (bad_ok ls 4000 Hb.out).1
      clear hc hbad
      go_wp2_with (go_at_call 103; refine (ended_reads _ ls _ Hrd.out (by have := Hle.out; omega)).mono ?_; rintro e w' ⟨r, rfl, hown, hbel⟩)
      go_ret2
      exact Or.inr ⟨Hb.out, _, rfl, hown, hbel⟩

/-- Bytes, for every slice of strings that can be read. -/
theorem bytes_reads (v : Value) (ls : List (List UInt8)) (w : World) (hr : Reads w v ls.length (ls.map S)) (hsz : ∀ s ∈ ls, s.length ≤ 9223372036854775807) :
    Calls Tryz.prog 66 #[v] w fun e w' =>
      (bad 4000 ls ≠ 0 ∧ e = .returned (.tuple #[.slice none 0 0, .int .i64 (bad 4000 ls)]) ∧ w' = w) ∨
      (bad 4000 ls = 0 ∧ ∃ r, e = .returned (.tuple #[r, .int .i64 0]) ∧ w'.ownsRow w.heap.size 5 1 r (ended ls).length ((ended ls).map U) ∧ Below w.heap.size w w') := by
  obtain ⟨_, ao, cap, rfl, h2, h3, h4⟩ := hr
  by_cases h0 : ls.length = 0
  · have hb : ls = [] := List.eq_nil_of_length_eq_zero h0
    subst hb
    refine (bytes_none ao cap w).mono ?_
    rintro e w' ⟨rfl, rfl⟩
    exact Or.inr ⟨rfl, _, rfl, by simpa [ended] using World.ownsRow_nil _ _ _ _, Below.refl _ _⟩
  · obtain ⟨b, off, rfl, hc⟩ := h4 h0
    exact bytes_some b off cap ls w (by omega) h2 (by simpa [maxLen] using h3) hc hsz
end Go.Proofs.YtkifihcficobnabGreatDoor
namespace Go.Proofs.YtkifihcficobnabGreatDoor
open Go.RowKit Go.Gs
set_option linter.unusedVariables false

/-- Gather. -/
def gatherT (fs : List SFile) (fr : List (List UInt8)) : List UInt8 × Int := if fchk fs = 0 then gather fs fr else ([], fchk fs)
theorem allLines_take {fs : List SFile} {fr : List (List UInt8)} {k : Nat} {s : List UInt8} (h : fr[k]? = some s) : allLines fs (fr.take (k + 1)) = allLines fs (fr.take k) ++ lines (fileOf fs s) := by
  rw [List.take_add_one, h, Option.toList_some, allLines_snoc]
theorem fileOf_le {fs : List SFile} {p : Option (List UInt8)} (h : fchkFrom p fs = 0) (n : List UInt8) : (fileOf fs n).length ≤ 4000 := by
  cases ht : thereOf fs n with
  | true =>
    obtain ⟨f, hf, _⟩ := there_get ht
    rw [file_there h ht hf]
    exact (from_all h f (List.mem_of_getElem? hf)).2
  | false => rw [file_not h ht]; simp
theorem allLines_few {fs : List SFile} {p : Option (List UInt8)} (h : fchkFrom p fs = 0) : ∀ (fr : List (List UInt8)), (allLines fs fr).length ≤ fr.length * 4000 ∧ ∀ s ∈ allLines fs fr, s.length ≤ 4001
  | [] => by simp [allLines]
  | n :: r => by
    obtain ⟨h1, h2⟩ := allLines_few h r
    rw [show allLines fs (n :: r) = lines (fileOf fs n) ++ allLines fs r from rfl]
    have h3 := lines_length (fileOf fs n)
    have h4 := fileOf_le h n
    refine ⟨by rw [List.length_append, List.length_cons]; omega, fun s hs => ?_⟩
    rcases List.mem_append.1 hs with hs | hs
    · have h5 := ended_lines (fileOf fs n)
      have h6 : s.length ≤ (ended (lines (fileOf fs n))).length := by
        obtain ⟨a, b, e⟩ := List.append_of_mem hs
        rw [e]
        simp [ended]
        omega
      omega
    · exact h2 s hs
theorem S_one {l : List (List UInt8)} : ∀ u ∈ l.map S, u.oneCell' = true := by
  intro u hu
  obtain ⟨x, _, rfl⟩ := List.mem_map.1 hu
  rfl
theorem owns_belowG {w w' : World} {base : Nat} {e : TypeId} {size : Nat} {v : Value} {n : Nat} {xs : List Value} (h : w.ownsRow base e size v n xs) (hb : Below w.heap.size w w') : w'.ownsRow base e size v n xs :=
  h.kept (row := none) ⟨hb.os, hb.tape, hb.output, hb.size, fun k hk _ => hb.block k hk⟩ (by cases hv : v.ownBlock <;> simp)

set_option maxRecDepth 100000 in
set_option maxHeartbeats 8000000 in
theorem gather_is (ao af : Option Addr) (cap cf : Nat) (fs : List SFile) (fr : List (List UInt8)) (w : World) (hf : RFiles w (.slice ao fs.length cap) fs) (hfit : ∀ f ∈ fs, FitsF f) (hfr : Reads w (.slice af fr.length cf) fr.length (fr.map S)) :
    Calls Tryz.prog 23 #[.slice ao fs.length cap, .slice af fr.length cf] w fun e w' => GetEnd w (gatherT fs fr) e w' := by
  have HC : Hid _ := fcheck_is ao cap fs w hf hfit
  have HF : Hid (RFiles w (.slice ao fs.length cap) fs) := hf
  have HFR : Hid (Reads w (.slice af fr.length cf) fr.length (fr.map S)) := hfr
  have hfl := reads_le' hfr
  obtain ⟨N, hN⟩ : ∃ N, N = fs.length := ⟨_, rfl⟩
  have HN : Hid (N = fs.length) := hN
  obtain ⟨L, hL⟩ : ∃ L, L = fr.length := ⟨_, rfl⟩
  have HL : Hid (L = fr.length) := hL
  obtain ⟨ck, hck⟩ : ∃ ck, ck = fchk fs := ⟨_, rfl⟩
  have HCK : Hid (ck = fchk fs) := hck
  rw [← hN, ← hck] at HC
  rw [← hN, ← hL]
  rw [← hL] at hfl HFR
  clear hf hfit hfr hN hck hL
  by_cases h0 : ck = 0
  · subst h0
    have HGT : Hid (gatherT fs fr = gather fs fr) := (show _ = _ by unfold gatherT; rw [if_pos HCK.out.symm])
    obtain ⟨hl12, hri⟩ := fchk_zero HCK.out.symm
    have HRI : Hid _ := hri
    have HL12 : Hid _ := hl12
    clear hri
    rw [← HN.out] at hl12
    by_cases hl4 : 4 < L
    · have HR : Hid (gatherT fs fr = ([], 2)) := (show _ = _ by rw [HGT.out]; unfold gather; rw [if_pos (by have := HL.out; omega)])
      have hq : (4 : Int) < L := by omega
      go_enter Tryz.func23, Tryz.ntmps23
      go_wp2_with fail
      refine Calls.mono HC.out ?_
      rintro e w1 ⟨rfl, hb1⟩
      have HB1 : Hid (Below w.heap.size w w1) := hb1
      clear hb1 HC
      go_wp2_with fail
      go_ret2
      exact getEnd_none HR.out rfl HB1.out
    · have hq : ¬ (4 : Int) < L := by omega
      have HGA : Hid _ := gather_at fs fr (by have := HL.out; omega)
      have HFEW : Hid _ := fun (k : Nat) => allLines_few HRI.out (fr.take k)
      obtain ⟨i0, hi, hi0, hi1, hi2⟩ := info_parts infoStr
      go_enter Tryz.func23, Tryz.ntmps23
      go_wp2_with fail
      refine Calls.mono HC.out ?_
      rintro e w1 ⟨rfl, hb1⟩
      have HB1 : Hid (Below w.heap.size w w1) := hb1
      clear hb1 HC
      go_wp2_with fail
      go_loopw [7, 24] (fun lv i wr => ∃ k : Nat, ∃ al nl cl, k ≤ L ∧ i = .int .i64 k ∧ lv = .slice al nl cl ∧ Hid (nl = (allLines fs (fr.take k)).length) ∧ Hid (wr.ownsRow w.heap.size 9 1 (.slice al nl cl) nl ((allLines fs (fr.take k)).map S)) ∧ Hid (Below w.heap.size w wr)) (fun _ i _ => L - (intOf i).toNat)
      case atStart => exact ⟨0, none, 0, 0, Nat.zero_le _, rfl, rfl, (show _ = _ from rfl), World.ownsRow_nil _ _ _ _, HB1⟩
      case round =>
        clear HB1
        obtain ⟨k, al, nl, cl, hk, rfl, rfl, HNL, HOW, hbel⟩ := hrel
        by_cases hlt : k < L
        · obtain ⟨s, hs⟩ : ∃ s, fr[k]? = some s := ⟨_, List.getElem?_eq_getElem (by have := HL.out; omega)⟩
          obtain ⟨bf, of, rfl, hcs⟩ := (Reads.below HFR.out hbel.out).at hs
          have HFI : Hid _ := find_is ao cap fs s wr (HF.out.below hbel.out) HRI.out HL12.out
          rw [← HN.out] at HFI
          have HTK : Hid (allLines fs (fr.take (k + 1)) = allLines fs (fr.take k) ++ lines (fileOf fs s)) := allLines_take hs
          obtain ⟨p, hp⟩ : ∃ p, p = posOf fs s := ⟨_, rfl⟩
          have HP : Hid (p = posOf fs s) := hp
          obtain ⟨t, ht⟩ : ∃ t, t = thereOf fs s := ⟨_, rfl⟩
          have HT : Hid (t = thereOf fs s) := ht
          rw [← hp, ← ht] at HFI
          generalize (⟨s.toArray⟩ : ByteArray) = sx at *
          clear hs hp ht
          go_wp2_with fail
          refine Calls.mono HFI.out ?_
          rintro e w2 ⟨rfl, hb2⟩
          have HB2 : Hid (Below w.heap.size w w2) := hbel.out.trans (hb2.mono hbel.out.size)
          have HO2 : Hid (w2.ownsRow w.heap.size 9 1 (.slice al nl cl) nl ((allLines fs (fr.take k)).map S)) := owns_belowG HOW.out hb2
          clear hb2 HFI HOW hcs
          cases t with
          | false =>
            have HE : Hid (allLines fs (fr.take (k + 1)) = allLines fs (fr.take k)) := (show _ = _ by rw [HTK.out, file_not HRI.out HT.out.symm]; simp [lines, linesAux])
            go_wp2_with fail
            go_roundw
            case rel => exact ⟨k + 1, _, _, _, by omega, by go_num, rfl, (show _ = _ by rw [HE.out]; exact HNL.out), (show World.ownsRow _ _ _ _ _ _ _ by rw [HE.out]; exact HO2.out), HB2⟩
            case measure => simp [intOf]; omega
          | true =>
            obtain ⟨f, hfk, hfn⟩ := there_get HT.out.symm
            have hfo := file_there HRI.out HT.out.symm hfk
            rw [← HP.out] at hfk
            have hpN : p < N := by have := (List.getElem?_eq_some_iff.1 hfk).1; rw [HN.out]; exact this
            obtain ⟨b, off, ab, cb, rfl, hc0, hc1, hrr⟩ := (RFiles.below HF.out HB2.out).at hfk
            have hb4 := (from_all HRI.out f (List.mem_of_getElem? hfk)).2
            have HOF : Hid _ := of_reads (.slice ab f.b.length cb) f.b w2 hrr hb4
            have HTK2 : Hid (allLines fs (fr.take (k + 1)) = allLines fs (fr.take k) ++ lines f.b) := (show _ = _ by rw [HTK.out, hfo])
            have hm4 : (lines f.b).length ≤ 4000 := Nat.le_trans (lines_length _) hb4
            obtain ⟨FL, hFL⟩ : ∃ FL, FL = f.b.length := ⟨_, rfl⟩
            rw [← hFL] at hc1 HOF
            obtain ⟨ML, hML⟩ : ∃ ML, ML = lines f.b := ⟨_, rfl⟩
            have HML : Hid (ML = lines f.b) := hML
            rw [← hML] at HOF HTK2 hm4
            generalize (⟨f.name.toArray⟩ : ByteArray) = fx at *
            clear hfk hfn hfo hrr hb4 hFL hML HTK
            go_wp2_with fail
            refine Calls.mono HOF.out ?_
            rintro e w3 ⟨r, rfl, hown, hb3⟩
            have HB3 : Hid (Below w.heap.size w w3) := HB2.out.trans (hb3.mono HB2.out.size)
            have HO3 : Hid (w3.ownsRow w.heap.size 9 1 (.slice al nl cl) nl ((allLines fs (fr.take k)).map S)) := owns_belowG HO2.out hb3
            have HW3 : Hid (w.heap.size ≤ w3.heap.size) := HB3.out.size
            have hn4 : nl ≤ 16000 := by
              have := (HFEW.out k).1
              rw [← HNL.out, List.length_take] at this
              have : min k fr.length ≤ 4 := by omega
              omega
            obtain ⟨mm, hmm⟩ : ∃ mm, mm = ML.length := ⟨_, rfl⟩
            have HMM : Hid (mm = ML.length) := hmm
            rw [← hmm] at hown hm4
            obtain ⟨zs, hzs⟩ : ∃ zs, zs = ML.map S := ⟨_, rfl⟩
            have HZ : Hid (zs = ML.map S) := hzs
            rw [← hzs] at hown
            obtain ⟨ys, hys⟩ : ∃ ys, ys = (allLines fs (fr.take k)).map S := ⟨_, rfl⟩
            have HY : Hid (ys = (allLines fs (fr.take k)).map S) := hys
            rw [← hys] at HO3
            have HNL2 : Hid (nl + mm = (allLines fs (fr.take (k + 1))).length) := (show _ = _ by rw [HTK2.out, List.length_append, ← HNL.out, ← HMM.out])
            have HYZ : Hid ((allLines fs (fr.take (k + 1))).map S = ys ++ zs) := (show _ = _ by rw [HTK2.out, List.map_append, HY.out, HZ.out])
            rcases hown.2 with ⟨rfl, h00⟩ | ⟨g, cg, cur, rfl, hbg, hgg, _, _, _, htk⟩
            · have hz0 : zs = [] := by have := hown.1; rw [h00] at this; exact List.eq_nil_of_length_eq_zero (by omega)
              subst h00
              have HZ0 : Hid (zs = []) := hz0
              clear hown hb3 HOF HO2 hmm hzs hys hc0 hc1 hz0
              go_wp2_with (at_builtin; refine wpList_append_own_none rfl (.tmp 48) (.tmp 49) 37 rfl w.heap.size 9 i0 1 Tryz.underlying37 hi _ nl ys rfl HO3.out rfl ?_)
              go_roundw
              case rel => exact ⟨k + 1, _, _, _, by omega, by go_num, rfl, (show _ = _ from HNL2.out), (show World.ownsRow _ _ _ _ _ _ _ by rw [HYZ.out, HZ0.out, List.append_nil]; exact HO3.out), HB3⟩
              case measure => simp [intOf]; omega
            · have HCE : Hid (∀ j u, zs[j]? = some u → w3.cell? ((⟨g, 0, none⟩ : Addr).add j) = some u) := hown.cells rfl
              clear hown hb3 HOF HO2 hmm hzs hys hc0 hc1 htk hgg hbg
              go_wp2_with (at_builtin; refine wpList_append_own _ rfl (.tmp 48) (.tmp 49) 37 rfl w.heap.size 9 i0 (.string ⟨#[]⟩) 1 16 Tryz.underlying37 hi hi0 hi1 hi2 rfl (by decide) _ nl ys rfl HO3.out ⟨g, 0, none⟩ mm cg zs rfl ?c0 ?c1 ?c2 ?c3 ?c4 ?c5 ?_)
              case c0 => rw [HZ.out, List.length_map, ← HMM.out, Nat.mul_one]
              case c1 => exact HCE.out
              case c2 => rw [HZ.out]; exact S_one
              case c3 => unfold maxLen; omega
              case c4 => omega
              case c5 => exact HW3.out
              · intro v' w9 hown hgrow _
                have hle9 : ∃ a9 c9, v' = .slice a9 (nl + mm) c9 := by
                  rcases hown.2 with ⟨rfl, h0⟩ | ⟨g', c', cur', rfl, _⟩
                  · exact ⟨none, 0, by rw [h0]⟩
                  · exact ⟨_, c', rfl⟩
                obtain ⟨a9, c9, rfl⟩ := hle9
                have HO9 : Hid (w9.ownsRow w.heap.size 9 1 (.slice a9 (nl + mm) c9) (nl + mm) ((allLines fs (fr.take (k + 1))).map S)) := (show World.ownsRow _ _ _ _ _ _ _ by rw [HYZ.out]; exact hown)
                have HB9 : Hid (Below w.heap.size w w9) := HB3.out.grown hgrow HW3.out (fun q hq => (HO3.out.lt q hq).1)
                clear hown hgrow HO3
                go_wp2_with fail
                go_roundw
                case rel => exact ⟨k + 1, _, _, _, by omega, by go_num, rfl, HNL2, HO9, HB9⟩
                case measure => simp [intOf]; omega
        · have hkL : k = L := by omega
          have HA : Hid (fr.take k = fr) := (show _ = _ from List.take_of_length_le (by have := HL.out; omega))
          have hrd := Reads.of_owns HOW.out
          have hfew := (HFEW.out k).2
          rw [HA.out] at hrd hfew
          have hnl := HNL.out
          rw [HA.out] at hnl
          have HBY : Hid _ := bytes_reads (.slice al nl cl) (allLines fs fr) wr (by rw [← hnl]; exact hrd) (fun s hs => Nat.le_trans (hfew s hs) (by omega))
          clear hrd hfew hnl
          go_wp2_with fail
          refine Calls.mono HBY.out ?_
          rintro e w2 (⟨hbd, rfl, rfl⟩ | ⟨hbd, r, rfl, hown, hb2⟩)
          · have HR : Hid (gatherT fs fr = ([], bad 4000 (allLines fs fr))) := (show _ = _ by rw [HGT.out, HGA.out, if_neg hbd])
            generalize bad 4000 (allLines fs fr) = bd at *
            go_wp2_with fail
            go_ret2
            exact getEnd_none HR.out rfl hbel.out
          · have HR : Hid (gatherT fs fr = (ended (allLines fs fr), 0)) := (show _ = _ by rw [HGT.out, HGA.out, if_pos hbd])
            have HB2 : Hid (Below w.heap.size w w2) := hbel.out.trans (hb2.mono hbel.out.size)
            have hrd := Reads.of_owns hown
            obtain ⟨a3, c3, rfl, _, _⟩ := hrd.shape
            have HRD : Hid _ := hrd
            obtain ⟨EN, hEN⟩ : ∃ EN, EN = (ended (allLines fs fr)).length := ⟨_, rfl⟩
            have HEN : Hid (EN = (ended (allLines fs fr)).length) := hEN
            rw [← hEN]
            clear hrd hown hb2 hbd hEN HBY
            go_wp2_with fail
            go_ret2
            refine ⟨a3, c3, ?_, ?_, HB2.out⟩
            · rw [HR.out, ← HEN.out]; rfl
            · rw [HR.out]; exact HRD.out
  · have HR : Hid (gatherT fs fr = ([], ck)) := (show _ = _ by unfold gatherT; rw [← HCK.out, if_neg h0])
    go_enter Tryz.func23, Tryz.ntmps23
    go_wp2_with fail
    refine Calls.mono HC.out ?_
    rintro e w1 ⟨rfl, hb1⟩
    have HB1 : Hid (Below w.heap.size w w1) := hb1
    clear hb1 HC
    go_wp2_with fail
    go_ret2
    exact getEnd_none HR.out rfl HB1.out
end Go.Proofs.YtkifihcficobnabGreatDoor
