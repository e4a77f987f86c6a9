/- An argument that is a mail, opened. -/
import Derived.Test.YtfffocfcnigogaaGreatDoorFramePairs
import Derived.Test.YtfffocfcnigogaaGreatDoorFrameRows
import Derived.Test.YtfffocfcnigogaaGreatDoorMails
namespace Go.Proofs.YtfffocfcnigogaaGreatDoor
open Go.ChangeShapes Go.WideShapes Go.ChangeAt Go.RowKit Go.Deep

theorem open_strs {H : Type} {enc : TypeId × Value → H} {W : World} {v : Value} {fuel : Nat} {x : DataW H × List MemPlace}
    (h : DataW.trod enc Tryz.prog W 0 (fun _ => true) true fuel 29 [v] = some x) :
    ∃ (a : Option Addr) (cap : Nat) (xs : List ByteArray), v = .slice a xs.length cap ∧ StrRow W a xs ∧ xs.length ≤ maxLen ∧ ∀ x ∈ xs, x.size ≤ maxLen := by
  have hsh : ∃ a len cap, v = .slice a len cap := by
    rcases open_strings Tryz.underlying29 Tryz.underlying9 cellsStr h with ⟨hcs, _⟩ | ⟨ad, l, c, ss, hcs, _⟩
    · exact ⟨none, 0, 0, by simpa using hcs⟩
    · exact ⟨some ad, l, c, by simpa using hcs⟩
  obtain ⟨a, len, cap, rfl⟩ := hsh
  obtain ⟨xs, rfl, h1, h2, h3⟩ := open_rows (d := x.1) (p := x.2) (a := a) (len := len) (cap := cap) ⟨fuel, h⟩
  exact ⟨a, cap, xs, rfl, h1, h2, h3⟩
theorem cellsLAddr : Tryz.prog.cellsOf 61 = 2 := by kernel_rfl
theorem cellsLAddrS : Tryz.prog.cellsOf 62 = 1 := by kernel_rfl
theorem cellsStrS : Tryz.prog.cellsOf 29 = 1 := by kernel_rfl
theorem cellsLMail : Tryz.prog.cellsOf 64 = 4 := by kernel_rfl
set_option maxRecDepth 100000 in
theorem open_addr_cells {H : Type} {enc : TypeId × Value → H} {W : World} {cs : List Value} {fuel : Nat} {x : DataW H × List MemPlace}
    (h : DataW.trod enc Tryz.prog W 0 (fun _ => true) true fuel 61 cs = some x) :
    ∃ u g : ByteArray, cs = [.string u, .string g] ∧ u.size ≤ maxLen ∧ g.size ≤ maxLen := by
  obtain ⟨xs, n', _, _, hcl, hxl, hf⟩ := DataW.trod_struct Tryz.underlying61 h
  rw [cellsLAddr] at hcl
  have hf0 : DataW.trod enc Tryz.prog W 0 (fun _ => true) true n' 9 ((cs.drop 0).take 1) = xs[0]? := hf 0 _ rfl
  have hf1 : DataW.trod enc Tryz.prog W 0 (fun _ => true) true n' 9 ((cs.drop 1).take 1) = xs[1]? := hf 1 _ rfl
  match cs, hcl with
  | [v0, v1], _ =>
    have x0 : xs[0]? = some (xs[0]'(by rw [hxl]; decide)) := List.getElem?_eq_getElem _
    have x1 : xs[1]? = some (xs[1]'(by rw [hxl]; decide)) := List.getElem?_eq_getElem _
    obtain ⟨u, e0, _, hu⟩ := DataW.trod_string Tryz.underlying9 (hf0.trans x0)
    obtain ⟨g, e1, _, hg⟩ := DataW.trod_string Tryz.underlying9 (hf1.trans x1)
    simp at e0 e1
    subst e0 e1
    exact ⟨u, g, rfl, hu, hg⟩
set_option maxRecDepth 100000 in
theorem open_mail_cells {H : Type} {enc : TypeId × Value → H} {W : World} {cs : List Value} {fuel : Nat} {x : DataW H × List MemPlace}
    (h : DataW.trod enc Tryz.prog W 0 (fun _ => true) true fuel 64 cs = some x) :
    ∃ (m : MailD) (a1 : Option Addr) (c1 : Nat) (a2 : Option Addr) (c2 : Nat), cs = (mailV m a1 c1 a2 c2).toList ∧ MailAt W m a1 a2 ∧ MailSz maxLen m := by
  obtain ⟨xs, n', _, _, hcl, hxl, hf⟩ := DataW.trod_struct Tryz.underlying64 h
  rw [cellsLMail] at hcl
  have hf0 : DataW.trod enc Tryz.prog W 0 (fun _ => true) true n' 61 ((cs.drop 0).take 2) = xs[0]? := hf 0 _ rfl
  have hf1 : DataW.trod enc Tryz.prog W 0 (fun _ => true) true n' 62 ((cs.drop 2).take 1) = xs[1]? := hf 1 _ rfl
  have hf2 : DataW.trod enc Tryz.prog W 0 (fun _ => true) true n' 29 ((cs.drop 3).take 1) = xs[2]? := hf 2 _ rfl
  match cs, hcl with
  | [v0, v1, v2, v3], _ =>
    have x0 : xs[0]? = some (xs[0]'(by rw [hxl]; decide)) := List.getElem?_eq_getElem _
    have x1 : xs[1]? = some (xs[1]'(by rw [hxl]; decide)) := List.getElem?_eq_getElem _
    have x2 : xs[2]? = some (xs[2]'(by rw [hxl]; decide)) := List.getElem?_eq_getElem _
    obtain ⟨u, g, e0, hu, hg⟩ := open_addr_cells (hf0.trans x0)
    obtain ⟨a1, c1, ps, e1, p1, p2, p3⟩ := open_pairs Tryz.underlying62 Tryz.underlying61 cellsLAddr rfl rfl rfl rfl cellsStr (v := v2) (hf1.trans x1)
    obtain ⟨a2, c2, ys, e2, s1, s2, s3⟩ := open_strs (v := v3) (hf2.trans x2)
    simp at e0
    obtain ⟨rfl, rfl⟩ := e0
    subst e1 e2
    exact ⟨⟨u, g, ps, ys⟩, a1, c1, a2, c2, rfl, ⟨p1, s1⟩, hu, hg, p2, p3, s2, s3⟩
set_option maxRecDepth 100000 in
theorem open_mail {H : Type} {enc : TypeId × Value → H} {W : World} {base : Nat} {v : Value} {d : DataW H} {p : List MemPlace}
    (hv : Value.okWide Tryz.prog W .any base 64 v) (h : DataW.Trod enc Tryz.prog W 0 (fun _ => true) true 64 v d p) :
    ∃ (m : MailD) (a1 : Option Addr) (c1 : Nat) (a2 : Option Addr) (c2 : Nat), v = .agg (mailV m a1 c1 a2 c2) ∧ MailAt W m a1 a2 ∧ MailSz maxLen m := by
  obtain ⟨cs, rfl, _⟩ := okWide_struct Tryz.underlying64 hv
  obtain ⟨fuel, hf⟩ := h
  obtain ⟨m, a1, c1, a2, c2, e, h1, h2⟩ := open_mail_cells (cs := cs.toList) hf
  exact ⟨m, a1, c1, a2, c2, congrArg Value.agg (Array.toList_inj.1 e), h1, h2⟩
end Go.Proofs.YtfffocfcnigogaaGreatDoor
