/- The walk of the sentence on commands, where all is right. -/
import Derived.Test.YtkifihcficobnaaGreatDoorCmdSays
namespace Go.Proofs.YtkifihcficobnaaGreatDoor
open Go.RowKit Go.Gs
set_option linter.unusedVariables false

/-- What the walk stands on, once Do has answered 'D'. -/
def SX (w W : World) (c : Cmd) (vb : Value) (b : List UInt8) (x : Value) (D : List UInt8) : Prop := SA w W c vb b ∧ Reads W x D.length (D.map U)
theorem SX.below {w W W' : World} {c : Cmd} {vb x : Value} {b D : List UInt8} (h : SX w W c vb b x D) (hb : Below W.heap.size W W') : SX w W' c vb b x D := ⟨h.1.below hb, h.2.below hb⟩
theorem SX.drew {w W : World} {c : Cmd} {vb x : Value} {b D : List UInt8} (h : SX w W c vb b x D) : SX w W.drew c vb b x D := h.below (Below.refl _ _).drew
theorem SX.known {w W : World} {c : Cmd} {vb x : Value} {b D : List UInt8} (h : SX w W c vb b x D) : Known W := h.1.1.known
theorem sx_any {F : FuncId} {args : Array Value} {w W : World} {k n : Int} {word : List UInt8} {vb x : Value} {b D : List UInt8} {v : Value} (h : SX w W ⟨k, word, n⟩ vb b x D) (hC : Calls Tryz.prog F args W fun e w' => e = .returned v ∧ Below W.heap.size W w') :
    Calls Tryz.prog F args W fun e w' => e = .returned v ∧ Hid (SX w w' ⟨k, word, n⟩ vb b x D) ∧ w'.cell? ⟨w.heap.size, 0, none⟩ = some (.int .i64 k) ∧ w'.cell? ⟨w.heap.size, 1, none⟩ = some (.string ⟨word.toArray⟩) ∧ w'.cell? ⟨w.heap.size, 2, none⟩ = some (.int .i64 n) := by
  refine hC.mono ?_
  rintro e w' ⟨rfl, hb⟩
  have h1 := h.below hb
  exact ⟨rfl, h1, h1.1.cells⟩
theorem sx_lines {w W : World} {k n : Int} {word : List UInt8} {vb x : Value} {b D : List UInt8} (h : SX w W ⟨k, word, n⟩ vb b x D) (hb : b.length ≤ 100000) :
    Calls Tryz.prog 21 #[vb] W fun e w' => ∃ g N cap, e = .returned (.slice (some ⟨g, 0, none⟩) N cap) ∧ Hid (Reads w' (.slice (some ⟨g, 0, none⟩) N cap) (lines b).length ((lines b).map S)) ∧ Hid (SX w w' ⟨k, word, n⟩ vb b x D) ∧ w'.cell? ⟨w.heap.size, 0, none⟩ = some (.int .i64 k) ∧ w'.cell? ⟨w.heap.size, 1, none⟩ = some (.string ⟨word.toArray⟩) ∧ w'.cell? ⟨w.heap.size, 2, none⟩ = some (.int .i64 n) := by
  refine (linesOf vb b W h.1.1.2.2.2.1 h.1.1.2.2.2.2.2.2 (by omega)).mono ?_
  rintro e w' ⟨g, cap, rfl, h1, h2⟩
  have h3 := h.below h2
  exact ⟨g, _, cap, rfl, h1, h3, h3.1.cells⟩
theorem sx_made {w W : World} {k n : Int} {word : List UInt8} {vb x v : Value} {b D : List UInt8} (h : SX w W ⟨k, word, n⟩ vb b x D) (hc : chk ⟨k, word, n⟩ = 0) (hb : b.length ≤ 4000) (hr : Reads W v (lines b).length ((lines b).map S)) :
    Calls Tryz.prog 20 #[.agg #[.int .i64 k, .string ⟨word.toArray⟩, .int .i64 n], v] W fun e w' => ∃ r, e = .returned r ∧ Hid (Reads w' r (made ⟨k, word, n⟩ (lines b)).length ((made ⟨k, word, n⟩ (lines b)).map S)) ∧ Hid (SX w w' ⟨k, word, n⟩ vb b x D) ∧ w'.cell? ⟨w.heap.size, 0, none⟩ = some (.int .i64 k) ∧ w'.cell? ⟨w.heap.size, 1, none⟩ = some (.string ⟨word.toArray⟩) ∧ w'.cell? ⟨w.heap.size, 2, none⟩ = some (.int .i64 n) := by
  refine (made_ref ⟨k, word, n⟩ hc v (lines b) W hr (Nat.le_trans (lines_length b) (by omega)) (fun s hs => Nat.le_trans (lines_short hs hb) (by omega)) h.1.1.2.2.2.2.2.2 h.known).mono ?_
  rintro e w' ⟨r, rfl, h1, h2⟩
  have h3 := h.below h2
  exact ⟨r, rfl, h1, h3, h3.1.cells⟩
theorem sx_bytes {w W : World} {c : Cmd} {vb x v : Value} {b D : List UInt8} {ls : List (List UInt8)} (h : SX w W c vb b x D) (hr : Reads W v ls.length (ls.map S)) (hl : (ended ls).length ≤ 100000) :
    Calls Tryz.prog 19 #[v] W fun e w' => ∃ r, e = .returned r ∧ Hid (Reads w' r (ended ls).length ((ended ls).map U)) ∧ Hid (SX w w' c vb b x D) := by
  refine (bytesOf v ls W hr (by omega)).mono ?_
  rintro e w' ⟨r, rfl, h1, h2⟩
  exact ⟨r, rfl, h1, h.below h2⟩
theorem sx_eq {w W : World} {c : Cmd} {vb x v : Value} {b D : List UInt8} (h : SX w W c vb b x D) (hr : Reads W v D.length (D.map U)) :
    Calls Tryz.prog 18 #[x, v] W fun e w' => e = .returned (.bool true) ∧ Hid (Below w.heap.size w w') := by
  refine (eqb_same x v D W h.2 hr).mono ?_
  rintro e w' ⟨rfl, h2⟩
  exact ⟨rfl, (h.below h2).1.2⟩

set_option maxRecDepth 100000 in
set_option maxHeartbeats 8000000 in
theorem says_ok (k n : Int) (word s : List UInt8) (ob : Option Addr) (cb : Nat) (b : List UInt8) (w : World) (hkw : (Lit.int .i64 k).wf = true) (hw : word.length ≤ 9223372036854775807) (hs : s.length ≤ 9223372036854775807) (h1 : Reads w (.slice ob b.length cb) b.length (b.map U)) (h3 : Known w) (h4 : w.ShapedOpen Tryz.prog)
    (hr : chk ⟨k, word, n⟩ = 0) (d e1 : Bool) (hd : isWord s = d) (he1 : isEach k = e1) (hbl : b.length ≤ 4000) :
    Calls Tryz.prog 3 #[.agg #[.int .i64 k, .string ⟨word.toArray⟩, .int .i64 n], .slice ob b.length cb, .string ⟨s.toArray⟩] w fun e w' => e = .returned (.bool true) ∧ Below w.heap.size w w' := by
  have S0 : Hid (SA w _ ⟨k, word, n⟩ (.slice ob b.length cb) b) := ⟨each_start (c := ⟨k, word, n⟩) h1 h1 h3 h4, box_of⟩
  have hC : ∀ W, Calls Tryz.prog 13 #[.agg #[.int .i64 k, .string ⟨word.toArray⟩, .int .i64 n]] W fun e w' => e = .returned (.int .i64 0) ∧ Below W.heap.size W w' := fun W => by rw [← hr]; exact check_is ⟨k, word, n⟩ W hw
  have hCR : ∀ W, Calls Tryz.prog 11 #[.agg #[.int .i64 k, .string ⟨word.toArray⟩, .int .i64 n]] W fun e w' => e = .returned (.int .i64 0) ∧ Below W.heap.size W w' := fun W => by rw [← hr]; exact check_ref ⟨k, word, n⟩ W hkw hw
  have hE : ∀ W, Calls Tryz.prog 16 #[.agg #[.int .i64 k, .string ⟨word.toArray⟩, .int .i64 n]] W fun e w' => e = .returned (.bool e1) ∧ Below W.heap.size W w' := fun W => by rw [← he1]; exact each_is ⟨k, word, n⟩ W
  have hER : ∀ W, Calls Tryz.prog 17 #[.agg #[.int .i64 k, .string ⟨word.toArray⟩, .int .i64 n]] W fun e w' => e = .returned (.bool e1) ∧ Below W.heap.size W w' := fun W => by rw [← he1]; exact isEach_ref ⟨k, word, n⟩ W
  have hW : ∀ W, Calls Tryz.prog 14 #[.string ⟨s.toArray⟩] W fun e w' => e = .returned (.bool d) ∧ Below W.heap.size W w' := fun W => by rw [← hd]; exact same_below (word_is s W hs)
  have hWR : ∀ W, Calls Tryz.prog 15 #[.string ⟨s.toArray⟩] W fun e w' => e = .returned (.bool d) ∧ Below W.heap.size W w' := fun W => isWord_ref s W hs d hd
  have HDO : Hid _ := do_lay ⟨k, word, n⟩ hw hr
  have HC : Hid (chk ⟨k, word, n⟩ = 0) := hr
  have HD : Hid (doOut ⟨k, word, n⟩ b = ended (made ⟨k, word, n⟩ (lines b))) := (show _ = _ from rfl)
  have HDL : Hid ((ended (made ⟨k, word, n⟩ (lines b))).length ≤ 100000) := by
    have := doOut_len ⟨k, word, n⟩ hr b (by omega)
    unfold doOut at this
    exact Nat.le_trans this (by omega)
  clear h1 h3 h4 hr hd he1 hw hs hkw
  generalize (⟨s.toArray⟩ : ByteArray) = ss at *
  go_enter Tryz.func3, Tryz.ntmps3
  go_wp2_with fail
  refine (HDO.out _ b _ S0.out.1.2.2.2.1 hbl S0.out.1.known).mono ?_
  rintro e w1 ⟨ox, cx, rfl, hx1, hb1⟩
  have hS1 := S0.out.below hb1
  obtain ⟨x0, x1, x2⟩ := hS1.cells
  have S1 : Hid (SX w w1 ⟨k, word, n⟩ (.slice ob b.length cb) b (.slice ox (doOut ⟨k, word, n⟩ b).length cx) (doOut ⟨k, word, n⟩ b)) := ⟨hS1, hx1⟩
  clear S0 HDO hx1 hb1 hS1
  obtain ⟨D, hDD⟩ : ∃ D, D = doOut ⟨k, word, n⟩ b := ⟨_, rfl⟩
  rw [← hDD] at S1 HD ⊢
  clear hDD
  obtain ⟨N, hN⟩ : ∃ N, N = D.length := ⟨_, rfl⟩
  rw [← hN] at S1 ⊢
  have HN : Hid (N = D.length) := hN
  clear hN
  go_wp2_with fail
  refine (sx_any S1.out (hCR _)).mono ?_
  rintro e w2 ⟨rfl, S2, y0, y1, y2⟩
  clear S1 hCR x0 x1 x2
  go_upto_region 3 with fail
  go_cut [39] (fun z wx => z = .bool false ∧ Hid (SX w wx ⟨k, word, n⟩ (.slice ob b.length cb) b (.slice ox N cx) D))
  case first =>
    have S3 : Hid (SX w w2.drew ⟨k, word, n⟩ (.slice ob b.length cb) b (.slice ox N cx) D) := S2.out.drew
    clear S2
    go_region_with (first
      | (go_at_call 12; refine (sx_any S3.out (did_true _ S3.out.known)).mono ?_; rintro e w4 ⟨rfl, S4, p0, p1, p2⟩)
      | (go_at_call 13; refine (sx_any S4.out (hC _)).mono ?_; rintro e w5 ⟨rfl, S5, q0, q1, q2⟩)
      | (go_at_call 14; refine (sx_any S5.out (hW _)).mono ?_; rintro e w6 ⟨rfl, S6, r0, r1, r2⟩)
      | (go_at_call 15; refine (sx_any S6.out (hWR _)).mono ?_; rintro e w7 ⟨rfl, S7, s0, s1, s2⟩)
      | (go_at_call 16; refine (sx_any S7.out (hE _)).mono ?_; rintro e w8 ⟨rfl, S8, t0, t1, t2⟩)
      | (go_at_call 17; refine (sx_any S8.out (hER _)).mono ?_; rintro e w9 ⟨rfl, S9, u0, u1, u2⟩))
    all_goals (go_wp2_with fail; go_meet; exact ⟨by simp, S9⟩)
  case rest =>
    obtain ⟨rfl, S9⟩ := hcut
    clear S2 y0 y1 y2 hC hE hER hW hWR
    obtain ⟨c0, c1, c2⟩ := S9.out.1.cells
    go_upto_region 9 with fail
    have S10 : Hid (SX w wc.drew ⟨k, word, n⟩ (.slice ob b.length cb) b (.slice ox N cx) D) := S9.out.drew
    clear S9
    go_region_with (first
      | (go_at_call 21; refine (sx_lines S10.out (by omega)).mono ?_; rintro e w11 ⟨g, NN, cap, rfl, R11, S11, p0, p1, p2⟩)
      | (go_at_call 20; refine (sx_made S11.out HC.out hbl R11.out).mono ?_; rintro e w12 ⟨r12, rfl, R12, S12, q0, q1, q2⟩)
      | (go_at_call 19; refine (sx_bytes S12.out R12.out HDL.out).mono ?_; rintro e w13 ⟨r13, rfl, R13, S13⟩)
      | (go_at_call 18; refine (sx_eq S13.out (by rw [HD.out]; exact R13.out)).mono ?_; rintro e w14 ⟨rfl, B14⟩))
    all_goals (go_wp2_with fail; go_ret; exact ⟨rfl, B14.out⟩)

theorem commandSays_walk (w : World) (hK : Known w) (hsh : w.ShapedOpen Tryz.prog) (k n : Int) (word : List UInt8) (hw : word.length ≤ 9223372036854775807) (hkw : (Lit.int .i64 k).wf = true) (ob : Option Addr) (cb : Nat) (b : List UInt8) (h2 : Reads w (.slice ob b.length cb) b.length (b.map U)) (hb : b.length ≤ 1000000000000000) (s : List UInt8) (hs : s.length ≤ 9223372036854775807) :
    Calls Tryz.prog 3 #[.agg #[.int .i64 k, .string ⟨word.toArray⟩, .int .i64 n], .slice ob b.length cb, .string ⟨s.toArray⟩] w fun e w' => e = .returned (.bool true) ∧ Below w.heap.size w w' := by
  by_cases hc : chk ⟨k, word, n⟩ = 0
  · by_cases hs4 : b.length ≤ 4000
    · exact says_ok k n word s ob cb b w hkw hw hs h2 hK hsh hc _ _ rfl rfl hs4
    · refine says_first k n word s ob cb b w hkw hw hs h2 hK hsh (.slice none 0 0) 2 0 hc _ _ rfl rfl (fun W hr hk => ?_) (.inr (by omega)) rfl rfl hb
      exact do_many ⟨k, word, n⟩ _ b.length _ W hw hc hr (by omega)
  · refine says_first k n word s ob cb b w hkw hw hs h2 hK hsh (.slice none 0 0) (chk ⟨k, word, n⟩) _ rfl _ _ rfl rfl (fun W hr hk => ?_) (.inl hc) (by rw [if_neg hc]) rfl hb
    exact do_err ⟨k, word, n⟩ _ W hw hc
end Go.Proofs.YtkifihcficobnaaGreatDoor
