/- What the developers' Same of graphs does. -/
import Derived.Test.YtkifihcficobnabGSame2
namespace Go.Proofs.Ytkifihcficobnab
open Go.RowKit Go.Gs
set_option linter.unusedVariables false

set_option maxRecDepth 100000 in
set_option maxHeartbeats 8000000 in
theorem eqnodes_is (au av : Option Addr) (cu cv : Nat) (a b : List SNode) (w : World) (ha : RNodes w (.slice au a.length cu) a) (hb : RNodes w (.slice av b.length cv) b) :
    Calls Try.prog 18 #[.slice au a.length cu, .slice av b.length cv, .func (.func 19) #[] #[]] w fun e w' => e = .returned (.bool (nodesEq a b)) ∧ Below w.heap.size w w' := by
  have m2 := rnodes_le ha
  have m4 := rnodes_le hb
  have HA : Hid (RNodes w (.slice au a.length cu) a) := ha
  have HB : Hid (RNodes w (.slice av b.length cv) b) := hb
  obtain ⟨NA, hNA⟩ : ∃ N, N = a.length := ⟨_, rfl⟩
  obtain ⟨NB, hNB⟩ : ∃ N, N = b.length := ⟨_, rfl⟩
  have HNA : Hid (NA = a.length) := hNA
  have HNB : Hid (NB = b.length) := hNB
  have hA1 : NA ≤ 9223372036854775807 := by omega
  have hB1 : NB ≤ 9223372036854775807 := by omega
  obtain ⟨r, hr⟩ : ∃ r, r = nodesEq a b := ⟨_, rfl⟩
  have HR : Hid (r = nodesEq a b) := hr
  rw [← hNA, ← hNB, ← hr]
  rw [← hNA] at HA
  rw [← hNB] at HB
  clear ha hb m2 m4 hNA hNB hr
  by_cases hne : NA = NB
  · subst hne
    go_enter Try.func18, Try.ntmps18
    go_wp2_with fail
    go_loopw [17] (fun i wr => ∃ k : Nat, k ≤ NA ∧ i = .int .i64 k ∧ Hid (Below w.heap.size w wr) ∧ Hid (r = nodesEq (a.drop k) (b.drop k))) (fun i _ => NA - (intOf i).toNat)
    case atStart => exact ⟨0, Nat.zero_le _, rfl, Below.refl _ _, HR⟩
    case round =>
      obtain ⟨k, hk, rfl, hbel, hall⟩ := hrel
      by_cases hlt : k < NA
      · obtain ⟨x, hx⟩ : ∃ x, a[k]? = some x := ⟨_, List.getElem?_eq_getElem (by have := HNA.out; omega)⟩
        obtain ⟨y, hy⟩ : ∃ y, b[k]? = some y := ⟨_, List.getElem?_eq_getElem (by have := HNB.out; omega)⟩
        have hst := nodesEq_drop hx hy
        obtain ⟨b1, o1, ax, cx, rfl, ⟨p0, p1, p2, p3, p4, p5, p6, p7⟩, hrx⟩ := (HA.out.below hbel.out).at hx
        obtain ⟨b2, o2, ay, cy, rfl, ⟨s0, s1, s2, s3, s4, s5, s6, s7⟩, hry⟩ := (HB.out.below hbel.out).at hy
        have HS : Hid _ := fun (W : World) (hb : Below wr.heap.size wr W) => same1_is x y ax ay cx cy W (hrx.below hb) (hry.below hb)
        obtain ⟨d, hd⟩ : ∃ d, d = nodeEq x y := ⟨_, rfl⟩
        rw [← hd] at HS hst
        rw [← hall.out] at hst
        have HST : Hid _ := hst
        have keep : ∀ {o : Obj} {q : Addr} {v : Value}, wr.cell? q = some v → (wr.alloc o).cell? q = some v := fun h => (box_of.cell (World.block_lt_of_cell? wr _ h)).trans h
        unfold nodeV at HS
        generalize (⟨x.file.toArray⟩ : ByteArray) = xf at *
        generalize (⟨x.c.word.toArray⟩ : ByteArray) = xw at *
        generalize x.c.kind = xck at *
        generalize x.c.n = xcn at *
        generalize x.how = xh at *
        generalize x.wide = xwd at *
        generalize x.kind = xk at *
        generalize x.ins.length = xn at *
        generalize (⟨y.file.toArray⟩ : ByteArray) = yf at *
        generalize (⟨y.c.word.toArray⟩ : ByteArray) = yw at *
        generalize y.c.kind = yck at *
        generalize y.c.n = ycn at *
        generalize y.how = yh at *
        generalize y.wide = ywd at *
        generalize y.kind = yk at *
        generalize y.ins.length = yn at *
        have t0 := keep (o := .cells #[.int .i64 xk, .string xf, .int .i64 xck, .string xw, .int .i64 xcn, .int .i64 xh, .int .i64 xwd, .slice ax xn cx] 38) s0
        have t1 := keep (o := .cells #[.int .i64 xk, .string xf, .int .i64 xck, .string xw, .int .i64 xcn, .int .i64 xh, .int .i64 xwd, .slice ax xn cx] 38) s1
        have t2 := keep (o := .cells #[.int .i64 xk, .string xf, .int .i64 xck, .string xw, .int .i64 xcn, .int .i64 xh, .int .i64 xwd, .slice ax xn cx] 38) s2
        have t3 := keep (o := .cells #[.int .i64 xk, .string xf, .int .i64 xck, .string xw, .int .i64 xcn, .int .i64 xh, .int .i64 xwd, .slice ax xn cx] 38) s3
        have t4 := keep (o := .cells #[.int .i64 xk, .string xf, .int .i64 xck, .string xw, .int .i64 xcn, .int .i64 xh, .int .i64 xwd, .slice ax xn cx] 38) s4
        have t5 := keep (o := .cells #[.int .i64 xk, .string xf, .int .i64 xck, .string xw, .int .i64 xcn, .int .i64 xh, .int .i64 xwd, .slice ax xn cx] 38) s5
        have t6 := keep (o := .cells #[.int .i64 xk, .string xf, .int .i64 xck, .string xw, .int .i64 xcn, .int .i64 xh, .int .i64 xwd, .slice ax xn cx] 38) s6
        have t7 := keep (o := .cells #[.int .i64 xk, .string xf, .int .i64 xck, .string xw, .int .i64 xcn, .int .i64 xh, .int .i64 xwd, .slice ax xn cx] 38) s7
        clear hx hy hd hrx hry hst hall keep
        go_wp2_with fail
        have hb2 : Below wr.heap.size wr ((wr.alloc (.cells #[.int .i64 xk, .string xf, .int .i64 xck, .string xw, .int .i64 xcn, .int .i64 xh, .int .i64 xwd, .slice ax xn cx] 38)).alloc (.cells #[.int .i64 yk, .string yf, .int .i64 yck, .string yw, .int .i64 ycn, .int .i64 yh, .int .i64 ywd, .slice ay yn cy] 38)) := box_of.trans (box_of.mono (by simp))
        have hQ := HS.out _ hb2
        refine Calls.mono hQ ?_
        rintro e w3 ⟨rfl, hb3⟩
        have HB3 : Hid (Below w.heap.size w w3) := hbel.out.trans ((hb2.trans (hb3.mono hb2.size)).mono hbel.out.size)
        clear hQ hb2 hb3 HS p0 p1 p2 p3 p4 p5 p6 p7 s0 s1 s2 s3 s4 s5 s6 s7 t0 t1 t2 t3 t4 t5 t6 t7
        cases d with
        | true =>
          have HE : Hid (r = nodesEq (a.drop (k + 1)) (b.drop (k + 1))) := (show _ = _ by rw [HST.out]; simp)
          clear HST
          go_wp2_with fail
          go_roundw
          case rel => exact ⟨k + 1, by omega, by go_num, HB3, HE⟩
          case measure => simp [intOf]; omega
        | false =>
          have HE : Hid (r = false) := (show _ = _ by rw [HST.out]; simp)
          clear HST
          go_wp2_with fail
          go_ret
          exact ⟨by rw [HE.out]; rfl, HB3.out⟩
      · have HE : Hid (r = true) := (show _ = _ by
          rw [hall.out, List.drop_of_length_le (by have := HNA.out; omega), List.drop_of_length_le (by have := HNB.out; omega)]; rfl)
        clear hall
        go_wp2_with fail
        go_ret
        exact ⟨by rw [HE.out]; rfl, hbel.out⟩
  · have HE : Hid (r = false) := (show _ = _ by rw [HR.out]; exact nodesEq_len (fun e => hne (by rw [HNA.out, HNB.out, e])))
    have hq : ¬ (NA : Int) = NB := by omega
    go_enter Try.func18, Try.ntmps18
    go_wp2_with fail
    go_ret
    exact ⟨by rw [HE.out]; rfl, Below.refl _ _⟩

set_option maxRecDepth 100000 in
set_option maxHeartbeats 4000000 in
theorem gsame_is (au av : Option Addr) (cu cv : Nat) (a b : List SNode) (w : World) (ha : RNodes w (.slice au a.length cu) a) (hb : RNodes w (.slice av b.length cv) b) :
    Calls Try.prog 10 #[.agg #[.slice au a.length cu], .agg #[.slice av b.length cv]] w fun e w' => e = .returned (.bool (nodesEq a b)) ∧ Below w.heap.size w w' := by
  have HE : Hid _ := fun (W : World) (h : Below w.heap.size w W) => eqnodes_is au av cu cv a b W (ha.below h) (hb.below h)
  generalize nodesEq a b = r at *
  generalize a.length = NA at *
  generalize b.length = NB at *
  have hbx : Below w.heap.size w ((w.alloc (.cells #[.slice au NA cu] 28)).alloc (.cells #[.slice av NB cv] 28)) := box_of.trans (box_of.mono (by simp))
  have HBX : Hid _ := hbx
  have HE2 : Hid _ := HE.out _ hbx
  clear ha hb hbx HE
  go_enter Try.func10, Try.ntmps10
  go_wp2_with fail
  refine Calls.mono HE2.out ?_
  rintro e w3 ⟨rfl, hb3⟩
  have HB3 : Hid (Below w.heap.size w w3) := HBX.out.trans (hb3.mono HBX.out.size)
  clear hb3 HE2
  go_wp2_with fail
  go_ret
  exact ⟨rfl, HB3.out⟩
end Go.Proofs.Ytkifihcficobnab
