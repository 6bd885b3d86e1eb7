/- Graphs held against each other: plainly; slices.Equal at ports; the developers' closure. What the developers' Same and the reference's SameGraph do. What the developers' Same of graphs does. What the reference OutsOf does. -/
import Derived.Test.YtkifihcficobnabGreatDoorGraphA
namespace Go.Proofs.YtkifihcficobnabGreatDoor
open Go.RowKit Go.Gs
set_option linter.unusedVariables false

/-- Are nodes alike? -/
def nodeEq (x y : SNode) : Bool := decide (x.kind = y.kind) && decide (x.file = y.file) && (decide (x.c.kind = y.c.kind) && decide (x.c.word = y.c.word) && decide (x.c.n = y.c.n)) && decide (x.how = y.how) && decide (x.wide = y.wide) && decide (x.ins = y.ins)
def nodesEq : List SNode → List SNode → Bool
  | [], [] => true
  | x :: r, y :: s => nodeEq x y && nodesEq r s
  | _, _ => false
theorem nodesEq_len : ∀ {a b : List SNode}, a.length ≠ b.length → nodesEq a b = false
  | [], [], h => absurd rfl h
  | [], _ :: _, _ => rfl
  | _ :: _, [], _ => rfl
  | x :: r, y :: s, h => by
    show (nodeEq x y && nodesEq r s) = false
    rw [nodesEq_len (a := r) (b := s) (by simpa using h)]
    simp
theorem nodesEq_drop : ∀ {a b : List SNode} {k : Nat} {x y : SNode}, a[k]? = some x → b[k]? = some y → nodesEq (a.drop k) (b.drop k) = (nodeEq x y && nodesEq (a.drop (k + 1)) (b.drop (k + 1)))
  | [], _, k, x, y, h, _ => by simp at h
  | _ :: _, [], k, x, y, _, h => by simp at h
  | u :: r, v :: s, 0, x, y, h1, h2 => by
    simp at h1 h2
    subst h1 h2
    rfl
  | u :: r, v :: s, k + 1, x, y, h1, h2 => by
    simpa using nodesEq_drop (a := r) (b := s) (k := k) (x := x) (y := y) (by simpa using h1) (by simpa using h2)
theorem port_take_eq {a b : List (Int × Int)} {k : Nat} {x : Int × Int} (h : a.take k = b.take k) (hx : a[k]? = some x) (hy : b[k]? = some x) : a.take (k + 1) = b.take (k + 1) := by
  rw [List.take_add_one, List.take_add_one, h, hx, hy]
theorem port_ne {a b : List (Int × Int)} {k : Nat} {x y : Int × Int} (hx : a[k]? = some x) (hy : b[k]? = some y) (h : x ≠ y) : a ≠ b := by
  intro e
  rw [e, hy] at hx
  injection hx with hx
  exact h hx.symm

set_option maxRecDepth 100000 in
set_option maxHeartbeats 4000000 in
theorem eqport_is (au av : Option Addr) (cu cv : Nat) (a b : List (Int × Int)) (w : World) (ha : RPorts w (.slice au a.length cu) a) (hb : RPorts w (.slice av b.length cv) b) :
    Calls Tryz.prog 79 #[.slice au a.length cu, .slice av b.length cv] w fun e w' => e = .returned (.bool (decide (a = b))) ∧ Below w.heap.size w w' := by
  have m2 := rports_le ha
  have m4 := rports_le hb
  have HA : Hid (RPorts w (.slice au a.length cu) a) := ha
  have HB : Hid (RPorts w (.slice av b.length cv) b) := hb
  obtain ⟨NA, hNA⟩ : ∃ N, N = a.length := ⟨_, rfl⟩
  obtain ⟨NB, hNB⟩ : ∃ N, N = b.length := ⟨_, rfl⟩
  have HNA : Hid (NA = a.length) := hNA
  have HNB : Hid (NB = b.length) := hNB
  have hA1 : NA ≤ 9223372036854775807 := by omega
  have hB1 : NB ≤ 9223372036854775807 := by omega
  rw [← hNA, ← hNB]
  rw [← hNA] at HA
  rw [← hNB] at HB
  clear ha hb m2 m4 hNA hNB
  by_cases hne : NA = NB
  · subst hne
    go_enter Tryz.func79, Tryz.ntmps79
    go_wp2_with fail
    go_loopw [13] (fun i wr => ∃ k : Nat, k ≤ NA ∧ i = .int .i64 k ∧ Hid (Below w.heap.size w wr) ∧ Hid (a.take k = b.take k)) (fun i _ => NA - (intOf i).toNat)
    case atStart => exact ⟨0, Nat.zero_le _, rfl, Below.refl _ _, (show _ = _ by simp)⟩
    case round =>
      obtain ⟨k, hk, rfl, hbel, hall⟩ := hrel
      by_cases hlt : k < NA
      · obtain ⟨x, hx⟩ : ∃ x, a[k]? = some x := ⟨_, List.getElem?_eq_getElem (by have := HNA.out; omega)⟩
        obtain ⟨y, hy⟩ : ∃ y, b[k]? = some y := ⟨_, List.getElem?_eq_getElem (by have := HNB.out; omega)⟩
        obtain ⟨b1, o1, rfl, c1, c2⟩ := (HA.out.below hbel.out).at hx
        obtain ⟨b2, o2, rfl, d1, d2⟩ := (HB.out.below hbel.out).at hy
        have HE : Hid (x = y → a.take (k + 1) = b.take (k + 1)) := (show _ → _ from fun e => port_take_eq hall.out hx (by rw [e]; exact hy))
        have HN : Hid (x ≠ y → a ≠ b) := (show _ → _ from fun e => port_ne hx hy e)
        obtain ⟨x1, x2⟩ := x
        obtain ⟨y1, y2⟩ := y
        simp only at c1 c2 d1 d2
        clear hx hy hall
        by_cases e1 : x1 = y1
        · subst e1
          by_cases e2 : x2 = y2
          · subst e2
            have HE2 : Hid (a.take (k + 1) = b.take (k + 1)) := HE.out rfl
            clear HE HN
            go_wp2_with fail
            go_region
            all_goals go_wp2_with fail
            all_goals go_roundw
            case rel => exact ⟨k + 1, by omega, by go_num, hbel.out.drew, HE2⟩
            case measure => simp [intOf]; omega
          · have HE2 : Hid (a ≠ b) := HN.out (fun e => e2 (by injection e))
            have q2 : (x2 == y2) = false := by simpa using e2
            clear HE HN
            go_wp2_with fail
            go_region
            all_goals go_wp2_with fail
            all_goals go_ret
            all_goals exact ⟨by rw [decide_eq_false HE2.out]; rfl, hbel.out.drew⟩
        · have HE2 : Hid (a ≠ b) := HN.out (fun e => e1 (by injection e))
          have q1 : (x1 == y1) = false := by simpa using e1
          clear HE HN
          go_wp2_with fail
          go_region
          all_goals go_wp2_with fail
          all_goals go_ret
          all_goals exact ⟨by rw [decide_eq_false HE2.out]; rfl, hbel.out.drew⟩
      · have HE : Hid (a = b) := (show _ = _ by
          have h := hall.out
          rw [List.take_of_length_le (by have := HNA.out; omega), List.take_of_length_le (by have := HNB.out; omega)] at h
          exact h)
        clear hall
        go_wp2_with fail
        go_ret
        exact ⟨by rw [decide_eq_true HE.out]; rfl, hbel.out⟩
  · have HE : Hid (a ≠ b) := (show a ≠ b from fun e => hne (by rw [HNA.out, HNB.out, e]))
    have hq : ¬ (NA : Int) = NB := by omega
    go_enter Tryz.func79, Tryz.ntmps79
    go_wp2_with fail
    go_ret
    exact ⟨by rw [decide_eq_false HE.out]; rfl, Below.refl _ _⟩
end Go.Proofs.YtkifihcficobnabGreatDoor
namespace Go.Proofs.YtkifihcficobnabGreatDoor
open Go.RowKit Go.Gs
set_option linter.unusedVariables false

/-- nodeEq, of what a walk sees. -/
def eqU (k l : Int) (fe : Bool) (ck dk : Int) (we : Bool) (cn dn hw iw wd vd : Int) (pe : Bool) : Bool := decide (k = l) && fe && (decide (ck = dk) && we && decide (cn = dn)) && decide (hw = iw) && decide (wd = vd) && pe
theorem eqU_is (x y : SNode) : nodeEq x y = eqU x.kind y.kind ((⟨x.file.toArray⟩ : ByteArray).toList == (⟨y.file.toArray⟩ : ByteArray).toList) x.c.kind y.c.kind ((⟨x.c.word.toArray⟩ : ByteArray).toList == (⟨y.c.word.toArray⟩ : ByteArray).toList) x.c.n y.c.n x.how y.how x.wide y.wide (decide (x.ins = y.ins)) := by
  unfold nodeEq eqU
  rw [str_eqO, str_eqO]

set_option maxRecDepth 100000 in
set_option maxHeartbeats 8000000 in
theorem same1_is (x y : SNode) (ax ay : Option Addr) (cx cy : Nat) (w : World) (hx : RPorts w (.slice ax x.ins.length cx) x.ins) (hy : RPorts w (.slice ay y.ins.length cy) y.ins) :
    Calls Tryz.prog 78 #[nodeV x ax x.ins.length cx, nodeV y ay y.ins.length cy] w fun e w' => e = .returned (.bool (nodeEq x y)) ∧ Below w.heap.size w w' := by
  rw [eqU_is]
  have HP : Hid _ := fun (W : World) (hb : Below w.heap.size w W) => eqport_is ax ay cx cy x.ins y.ins W (hx.below hb) (hy.below hb)
  unfold nodeV
  generalize decide (x.ins = y.ins) = pe at *
  generalize x.ins.length = nx at *
  generalize y.ins.length = ny at *
  generalize (⟨x.file.toArray⟩ : ByteArray) = fx at *
  generalize (⟨y.file.toArray⟩ : ByteArray) = gx at *
  generalize (⟨x.c.word.toArray⟩ : ByteArray) = wx at *
  generalize (⟨y.c.word.toArray⟩ : ByteArray) = vx at *
  obtain ⟨fe, hfe⟩ : ∃ d, (fx.toList == gx.toList) = d := ⟨_, rfl⟩
  obtain ⟨we, hwe⟩ : ∃ d, (wx.toList == vx.toList) = d := ⟨_, rfl⟩
  rw [hfe, hwe]
  generalize x.kind = k at *
  generalize y.kind = l at *
  generalize x.c.kind = ck at *
  generalize y.c.kind = dk at *
  generalize x.c.n = cn at *
  generalize y.c.n = dn at *
  generalize x.how = hw at *
  generalize y.how = iw at *
  generalize x.wide = wd at *
  generalize y.wide = vd at *
  have hbx : Below w.heap.size w ((w.alloc (.cells #[.int .i64 k, .string fx, .int .i64 ck, .string wx, .int .i64 cn, .int .i64 hw, .int .i64 wd, .slice ax nx cx] 62)).alloc (.cells #[.int .i64 l, .string gx, .int .i64 dk, .string vx, .int .i64 dn, .int .i64 iw, .int .i64 vd, .slice ay ny cy] 62)) := box_of.trans (box_of.mono (by simp))
  have HBX : Hid _ := hbx
  have HC : Hid _ := HP.out _ hbx
  clear hx hy hbx HP
  by_cases e1 : k = l
  · subst e1
    cases fe with
    | false =>
      go_enter Tryz.func78, Tryz.ntmps78
      go_wp2_with fail
      go_ret
      exact ⟨by simp [eqU], HBX.out⟩
    | true =>
      by_cases e2 : ck = dk ∧ we = true ∧ cn = dn
      · obtain ⟨rfl, rfl, rfl⟩ := e2
        by_cases e3 : hw = iw
        · subst e3
          by_cases e4 : wd = vd
          · subst e4
            go_enter Tryz.func78, Tryz.ntmps78
            go_wp2_with fail
            refine Calls.mono HC.out ?_
            rintro e w3 ⟨rfl, hb3⟩
            have HB3 : Hid (Below w.heap.size w w3) := HBX.out.trans (hb3.mono HBX.out.size)
            clear hb3 HC
            go_wp2_with fail
            go_ret
            exact ⟨by simp [eqU], HB3.out⟩
          · have q4 : (wd == vd) = false := by simpa using e4
            go_enter Tryz.func78, Tryz.ntmps78
            go_wp2_with fail
            go_ret
            exact ⟨by simp [eqU, e4], HBX.out⟩
        · have q3 : (hw == iw) = false := by simpa using e3
          go_enter Tryz.func78, Tryz.ntmps78
          go_wp2_with fail
          go_ret
          exact ⟨by simp [eqU, e3], HBX.out⟩
      · have hfin : eqU k k true ck dk we cn dn hw iw wd vd pe = false := by
          unfold eqU
          have : (decide (ck = dk) && we && decide (cn = dn)) = false := by
            cases hq : (decide (ck = dk) && we && decide (cn = dn)) with
            | false => rfl
            | true =>
              simp only [Bool.and_eq_true, decide_eq_true_eq] at hq
              exact absurd ⟨hq.1.1, hq.1.2, hq.2⟩ e2
          rw [this]
          simp
        rw [hfin]
        clear hfin
        by_cases e5 : ck = dk
        · subst e5
          cases we with
          | false =>
            clear e2
            go_enter Tryz.func78, Tryz.ntmps78
            go_wp2_with fail
            go_ret
            exact ⟨rfl, HBX.out⟩
          | true =>
            have e6 : ¬ cn = dn := fun h => e2 ⟨rfl, rfl, h⟩
            have q6 : (cn == dn) = false := by simpa using e6
            clear e2
            go_enter Tryz.func78, Tryz.ntmps78
            go_wp2_with fail
            go_ret
            exact ⟨rfl, HBX.out⟩
        · have q5 : (ck == dk) = false := by simpa using e5
          clear e2
          go_enter Tryz.func78, Tryz.ntmps78
          go_wp2_with fail
          go_ret
          exact ⟨rfl, HBX.out⟩
  · have q1 : (k == l) = false := by simpa using e1
    go_enter Tryz.func78, Tryz.ntmps78
    go_wp2_with fail
    go_ret
    exact ⟨by simp [eqU, e1], HBX.out⟩
end Go.Proofs.YtkifihcficobnabGreatDoor
namespace Go.Proofs.YtkifihcficobnabGreatDoor
open Go.RowKit Go.Gs
set_option linter.unusedVariables false

set_option maxRecDepth 100000 in
set_option maxHeartbeats 8000000 in
theorem eqnodes_is (au av : Option Addr) (cu cv : Nat) (a b : List SNode) (w : World) (ha : RNodes w (.slice au a.length cu) a) (hb : RNodes w (.slice av b.length cv) b) :
    Calls Tryz.prog 77 #[.slice au a.length cu, .slice av b.length cv, .func (.func 78) #[] #[]] w fun e w' => e = .returned (.bool (nodesEq a b)) ∧ Below w.heap.size w w' := by
  have m2 := rnodes_le ha
  have m4 := rnodes_le hb
  have HA : Hid (RNodes w (.slice au a.length cu) a) := ha
  have HB : Hid (RNodes w (.slice av b.length cv) b) := hb
  obtain ⟨NA, hNA⟩ : ∃ N, N = a.length := ⟨_, rfl⟩
  obtain ⟨NB, hNB⟩ : ∃ N, N = b.length := ⟨_, rfl⟩
  have HNA : Hid (NA = a.length) := hNA
  have HNB : Hid (NB = b.length) := hNB
  have hA1 : NA ≤ 9223372036854775807 := by omega
  have hB1 : NB ≤ 9223372036854775807 := by omega
  obtain ⟨r, hr⟩ : ∃ r, r = nodesEq a b := ⟨_, rfl⟩
  have HR : Hid (r = nodesEq a b) := hr
  rw [← hNA, ← hNB, ← hr]
  rw [← hNA] at HA
  rw [← hNB] at HB
  clear ha hb m2 m4 hNA hNB hr
  by_cases hne : NA = NB
  · subst hne
    go_enter Tryz.func77, Tryz.ntmps77
    go_wp2_with fail
    go_loopw [17] (fun i wr => ∃ k : Nat, k ≤ NA ∧ i = .int .i64 k ∧ Hid (Below w.heap.size w wr) ∧ Hid (r = nodesEq (a.drop k) (b.drop k))) (fun i _ => NA - (intOf i).toNat)
    case atStart => exact ⟨0, Nat.zero_le _, rfl, Below.refl _ _, HR⟩
    case round =>
      obtain ⟨k, hk, rfl, hbel, hall⟩ := hrel
      by_cases hlt : k < NA
      · obtain ⟨x, hx⟩ : ∃ x, a[k]? = some x := ⟨_, List.getElem?_eq_getElem (by have := HNA.out; omega)⟩
        obtain ⟨y, hy⟩ : ∃ y, b[k]? = some y := ⟨_, List.getElem?_eq_getElem (by have := HNB.out; omega)⟩
        have hst := nodesEq_drop hx hy
        obtain ⟨b1, o1, ax, cx, rfl, ⟨p0, p1, p2, p3, p4, p5, p6, p7⟩, hrx⟩ := (HA.out.below hbel.out).at hx
        obtain ⟨b2, o2, ay, cy, rfl, ⟨s0, s1, s2, s3, s4, s5, s6, s7⟩, hry⟩ := (HB.out.below hbel.out).at hy
        have HS : Hid _ := fun (W : World) (hb : Below wr.heap.size wr W) => same1_is x y ax ay cx cy W (hrx.below hb) (hry.below hb)
        obtain ⟨d, hd⟩ : ∃ d, d = nodeEq x y := ⟨_, rfl⟩
        rw [← hd] at HS hst
        rw [← hall.out] at hst
        have HST : Hid _ := hst
        have keep : ∀ {o : Obj} {q : Addr} {v : Value}, wr.cell? q = some v → (wr.alloc o).cell? q = some v := fun h => (box_of.cell (World.block_lt_of_cell? wr _ h)).trans h
        unfold nodeV at HS
        generalize (⟨x.file.toArray⟩ : ByteArray) = xf at *
        generalize (⟨x.c.word.toArray⟩ : ByteArray) = xw at *
        generalize x.c.kind = xck at *
        generalize x.c.n = xcn at *
        generalize x.how = xh at *
        generalize x.wide = xwd at *
        generalize x.kind = xk at *
        generalize x.ins.length = xn at *
        generalize (⟨y.file.toArray⟩ : ByteArray) = yf at *
        generalize (⟨y.c.word.toArray⟩ : ByteArray) = yw at *
        generalize y.c.kind = yck at *
        generalize y.c.n = ycn at *
        generalize y.how = yh at *
        generalize y.wide = ywd at *
        generalize y.kind = yk at *
        generalize y.ins.length = yn at *
        have t0 := keep (o := .cells #[.int .i64 xk, .string xf, .int .i64 xck, .string xw, .int .i64 xcn, .int .i64 xh, .int .i64 xwd, .slice ax xn cx] 62) s0
        have t1 := keep (o := .cells #[.int .i64 xk, .string xf, .int .i64 xck, .string xw, .int .i64 xcn, .int .i64 xh, .int .i64 xwd, .slice ax xn cx] 62) s1
        have t2 := keep (o := .cells #[.int .i64 xk, .string xf, .int .i64 xck, .string xw, .int .i64 xcn, .int .i64 xh, .int .i64 xwd, .slice ax xn cx] 62) s2
        have t3 := keep (o := .cells #[.int .i64 xk, .string xf, .int .i64 xck, .string xw, .int .i64 xcn, .int .i64 xh, .int .i64 xwd, .slice ax xn cx] 62) s3
        have t4 := keep (o := .cells #[.int .i64 xk, .string xf, .int .i64 xck, .string xw, .int .i64 xcn, .int .i64 xh, .int .i64 xwd, .slice ax xn cx] 62) s4
        have t5 := keep (o := .cells #[.int .i64 xk, .string xf, .int .i64 xck, .string xw, .int .i64 xcn, .int .i64 xh, .int .i64 xwd, .slice ax xn cx] 62) s5
        have t6 := keep (o := .cells #[.int .i64 xk, .string xf, .int .i64 xck, .string xw, .int .i64 xcn, .int .i64 xh, .int .i64 xwd, .slice ax xn cx] 62) s6
        have t7 := keep (o := .cells #[.int .i64 xk, .string xf, .int .i64 xck, .string xw, .int .i64 xcn, .int .i64 xh, .int .i64 xwd, .slice ax xn cx] 62) s7
        clear hx hy hd hrx hry hst hall keep
        go_wp2_with fail
        have hb2 : Below wr.heap.size wr ((wr.alloc (.cells #[.int .i64 xk, .string xf, .int .i64 xck, .string xw, .int .i64 xcn, .int .i64 xh, .int .i64 xwd, .slice ax xn cx] 62)).alloc (.cells #[.int .i64 yk, .string yf, .int .i64 yck, .string yw, .int .i64 ycn, .int .i64 yh, .int .i64 ywd, .slice ay yn cy] 62)) := box_of.trans (box_of.mono (by simp))
        have hQ := HS.out _ hb2
        refine Calls.mono hQ ?_
        rintro e w3 ⟨rfl, hb3⟩
        have HB3 : Hid (Below w.heap.size w w3) := hbel.out.trans ((hb2.trans (hb3.mono hb2.size)).mono hbel.out.size)
        clear hQ hb2 hb3 HS p0 p1 p2 p3 p4 p5 p6 p7 s0 s1 s2 s3 s4 s5 s6 s7 t0 t1 t2 t3 t4 t5 t6 t7
        cases d with
        | true =>
          have HE : Hid (r = nodesEq (a.drop (k + 1)) (b.drop (k + 1))) := (show _ = _ by rw [HST.out]; simp)
          clear HST
          go_wp2_with fail
          go_roundw
          case rel => exact ⟨k + 1, by omega, by go_num, HB3, HE⟩
          case measure => simp [intOf]; omega
        | false =>
          have HE : Hid (r = false) := (show _ = _ by rw [HST.out]; simp)
          clear HST
          go_wp2_with fail
          go_ret
          exact ⟨by rw [HE.out]; rfl, HB3.out⟩
      · have HE : Hid (r = true) := (show _ = _ by
          rw [hall.out, List.drop_of_length_le (by have := HNA.out; omega), List.drop_of_length_le (by have := HNB.out; omega)]; rfl)
        clear hall
        go_wp2_with fail
        go_ret
        exact ⟨by rw [HE.out]; rfl, hbel.out⟩
  · have HE : Hid (r = false) := (show _ = _ by rw [HR.out]; exact nodesEq_len (fun e => hne (by rw [HNA.out, HNB.out, e])))
    have hq : ¬ (NA : Int) = NB := by omega
    go_enter Tryz.func77, Tryz.ntmps77
    go_wp2_with fail
    go_ret
    exact ⟨by rw [HE.out]; rfl, Below.refl _ _⟩

set_option maxRecDepth 100000 in
set_option maxHeartbeats 4000000 in
theorem gsame_is (au av : Option Addr) (cu cv : Nat) (a b : List SNode) (w : World) (ha : RNodes w (.slice au a.length cu) a) (hb : RNodes w (.slice av b.length cv) b) :
    Calls Tryz.prog 36 #[.agg #[.slice au a.length cu], .agg #[.slice av b.length cv]] w fun e w' => e = .returned (.bool (nodesEq a b)) ∧ Below w.heap.size w w' := by
  have HE : Hid _ := fun (W : World) (h : Below w.heap.size w W) => eqnodes_is au av cu cv a b W (ha.below h) (hb.below h)
  generalize nodesEq a b = r at *
  generalize a.length = NA at *
  generalize b.length = NB at *
  have hbx : Below w.heap.size w ((w.alloc (.cells #[.slice au NA cu] 57)).alloc (.cells #[.slice av NB cv] 57)) := box_of.trans (box_of.mono (by simp))
  have HBX : Hid _ := hbx
  have HE2 : Hid _ := HE.out _ hbx
  clear ha hb hbx HE
  go_enter Tryz.func36, Tryz.ntmps36
  go_wp2_with fail
  refine Calls.mono HE2.out ?_
  rintro e w3 ⟨rfl, hb3⟩
  have HB3 : Hid (Below w.heap.size w w3) := HBX.out.trans (hb3.mono HBX.out.size)
  clear hb3 HE2
  go_wp2_with fail
  go_ret
  exact ⟨rfl, HB3.out⟩
end Go.Proofs.YtkifihcficobnabGreatDoor
namespace Go.Proofs.YtkifihcficobnabGreatDoor
open Go.RowKit Go.Gs
set_option linter.unusedVariables false

set_option maxRecDepth 100000 in
set_option maxHeartbeats 4000000 in
theorem outsOf_ref (n : SNode) (ai : Option Addr) (ni ci : Nat) (w : World) :
    Calls Tryz.prog 39 #[nodeV n ai ni ci] w fun e w' => e = .returned (.int .i64 (nouts n)) ∧ Below w.heap.size w w' := by
  unfold nodeV nouts
  generalize n.kind = k
  generalize n.wide = wd
  generalize (⟨n.file.toArray⟩ : ByteArray) = fx
  generalize (⟨n.c.word.toArray⟩ : ByteArray) = wx
  generalize n.c.kind = ck
  generalize n.c.n = cn
  generalize n.how = hw
  by_cases h2 : k = 2
  · subst h2
    go_enter Tryz.func39, Tryz.ntmps39
    go_wp2_with fail
    go_ret
    exact ⟨rfl, box_of⟩
  · by_cases h5 : k = 5
    · subst h5
      go_enter Tryz.func39, Tryz.ntmps39
      go_wp2_with fail
      go_ret
      exact ⟨rfl, box_of⟩
    · rw [if_neg h2, if_neg h5]
      have e2 : (k == 2) = false := by simpa using h2
      have e5 : (k == 5) = false := by simpa using h5
      go_enter Tryz.func39, Tryz.ntmps39
      go_wp2_with fail
      go_ret
      exact ⟨rfl, box_of⟩
end Go.Proofs.YtkifihcficobnabGreatDoor
