/- What the developers' Same and the reference's SameGraph do. -/
import Derived.Test.YtkifihcficobnabGSame
namespace Go.Proofs.Ytkifihcficobnab
open Go.RowKit Go.Gs
set_option linter.unusedVariables false

/-- nodeEq, of what a walk sees. -/
def eqU (k l : Int) (fe : Bool) (ck dk : Int) (we : Bool) (cn dn hw iw wd vd : Int) (pe : Bool) : Bool := decide (k = l) && fe && (decide (ck = dk) && we && decide (cn = dn)) && decide (hw = iw) && decide (wd = vd) && pe
theorem eqU_is (x y : SNode) : nodeEq x y = eqU x.kind y.kind ((⟨x.file.toArray⟩ : ByteArray).toList == (⟨y.file.toArray⟩ : ByteArray).toList) x.c.kind y.c.kind ((⟨x.c.word.toArray⟩ : ByteArray).toList == (⟨y.c.word.toArray⟩ : ByteArray).toList) x.c.n y.c.n x.how y.how x.wide y.wide (decide (x.ins = y.ins)) := by
  unfold nodeEq eqU
  rw [str_eqO, str_eqO]

set_option maxRecDepth 100000 in
set_option maxHeartbeats 8000000 in
theorem same1_is (x y : SNode) (ax ay : Option Addr) (cx cy : Nat) (w : World) (hx : RPorts w (.slice ax x.ins.length cx) x.ins) (hy : RPorts w (.slice ay y.ins.length cy) y.ins) :
    Calls Try.prog 19 #[nodeV x ax x.ins.length cx, nodeV y ay y.ins.length cy] w fun e w' => e = .returned (.bool (nodeEq x y)) ∧ Below w.heap.size w w' := by
  rw [eqU_is]
  have HP : Hid _ := fun (W : World) (hb : Below w.heap.size w W) => eqport_is ax ay cx cy x.ins y.ins W (hx.below hb) (hy.below hb)
  unfold nodeV
  generalize decide (x.ins = y.ins) = pe at *
  generalize x.ins.length = nx at *
  generalize y.ins.length = ny at *
  generalize (⟨x.file.toArray⟩ : ByteArray) = fx at *
  generalize (⟨y.file.toArray⟩ : ByteArray) = gx at *
  generalize (⟨x.c.word.toArray⟩ : ByteArray) = wx at *
  generalize (⟨y.c.word.toArray⟩ : ByteArray) = vx at *
  obtain ⟨fe, hfe⟩ : ∃ d, (fx.toList == gx.toList) = d := ⟨_, rfl⟩
  obtain ⟨we, hwe⟩ : ∃ d, (wx.toList == vx.toList) = d := ⟨_, rfl⟩
  rw [hfe, hwe]
  generalize x.kind = k at *
  generalize y.kind = l at *
  generalize x.c.kind = ck at *
  generalize y.c.kind = dk at *
  generalize x.c.n = cn at *
  generalize y.c.n = dn at *
  generalize x.how = hw at *
  generalize y.how = iw at *
  generalize x.wide = wd at *
  generalize y.wide = vd at *
  have hbx : Below w.heap.size w ((w.alloc (.cells #[.int .i64 k, .string fx, .int .i64 ck, .string wx, .int .i64 cn, .int .i64 hw, .int .i64 wd, .slice ax nx cx] 38)).alloc (.cells #[.int .i64 l, .string gx, .int .i64 dk, .string vx, .int .i64 dn, .int .i64 iw, .int .i64 vd, .slice ay ny cy] 38)) := box_of.trans (box_of.mono (by simp))
  have HBX : Hid _ := hbx
  have HC : Hid _ := HP.out _ hbx
  clear hx hy hbx HP
  by_cases e1 : k = l
  · subst e1
    cases fe with
    | false =>
      go_enter Try.func19, Try.ntmps19
      go_wp2_with fail
      go_ret
      exact ⟨by simp [eqU], HBX.out⟩
    | true =>
      by_cases e2 : ck = dk ∧ we = true ∧ cn = dn
      · obtain ⟨rfl, rfl, rfl⟩ := e2
        by_cases e3 : hw = iw
        · subst e3
          by_cases e4 : wd = vd
          · subst e4
            go_enter Try.func19, Try.ntmps19
            go_wp2_with fail
            refine Calls.mono HC.out ?_
            rintro e w3 ⟨rfl, hb3⟩
            have HB3 : Hid (Below w.heap.size w w3) := HBX.out.trans (hb3.mono HBX.out.size)
            clear hb3 HC
            go_wp2_with fail
            go_ret
            exact ⟨by simp [eqU], HB3.out⟩
          · have q4 : (wd == vd) = false := by simpa using e4
            go_enter Try.func19, Try.ntmps19
            go_wp2_with fail
            go_ret
            exact ⟨by simp [eqU, e4], HBX.out⟩
        · have q3 : (hw == iw) = false := by simpa using e3
          go_enter Try.func19, Try.ntmps19
          go_wp2_with fail
          go_ret
          exact ⟨by simp [eqU, e3], HBX.out⟩
      · have hfin : eqU k k true ck dk we cn dn hw iw wd vd pe = false := by
          unfold eqU
          have : (decide (ck = dk) && we && decide (cn = dn)) = false := by
            cases hq : (decide (ck = dk) && we && decide (cn = dn)) with
            | false => rfl
            | true =>
              simp only [Bool.and_eq_true, decide_eq_true_eq] at hq
              exact absurd ⟨hq.1.1, hq.1.2, hq.2⟩ e2
          rw [this]
          simp
        rw [hfin]
        clear hfin
        by_cases e5 : ck = dk
        · subst e5
          cases we with
          | false =>
            clear e2
            go_enter Try.func19, Try.ntmps19
            go_wp2_with fail
            go_ret
            exact ⟨rfl, HBX.out⟩
          | true =>
            have e6 : ¬ cn = dn := fun h => e2 ⟨rfl, rfl, h⟩
            have q6 : (cn == dn) = false := by simpa using e6
            clear e2
            go_enter Try.func19, Try.ntmps19
            go_wp2_with fail
            go_ret
            exact ⟨rfl, HBX.out⟩
        · have q5 : (ck == dk) = false := by simpa using e5
          clear e2
          go_enter Try.func19, Try.ntmps19
          go_wp2_with fail
          go_ret
          exact ⟨rfl, HBX.out⟩
  · have q1 : (k == l) = false := by simpa using e1
    go_enter Try.func19, Try.ntmps19
    go_wp2_with fail
    go_ret
    exact ⟨by simp [eqU, e1], HBX.out⟩
end Go.Proofs.Ytkifihcficobnab
