/- Proved here: the contract of the stable sort's symMerge at elements of several cells, in any case. Helper contracts. -/
import Derived.Test.YtfgelagmjjjlgaaZNSyE
import Derived.Test.YtfgelagmjjjlgaaZNSyG
namespace Go.Proofs.Ytfgelagmjjjlgaa.Nt
open Go.Shelf Go.RowKit Go.Lib Go.Sort
variable {P : Program} {α : Type} [Inhabited α] {k : Nat} {enc : α → List Value}

theorem sym_any (L : Lay P k) (cf : α → α → Int) (key : α → Int) (tag : α → Nat) (hcf : ∀ x y, cf x y < 0 ↔ key x < key y) (g : Nat) (cb : Array Value) (blk off cap N : Nat) (d0 : Array α) (w0 : World) (eg : ∀ args w, (callFunc g args).run P w = .ok (.enter g args) w) (hcmp : CmpLays P g cb enc k cf blk off d0.size w0) (R : RowK enc k w0 blk off d0) (hs : d0.size = N) (hsz : N ≤ 1000000000) : ∀ (G a m b : Nat) (d : Array α) (w : World), b - a ≤ G → a < m → m < b → b ≤ N → d.size = N → SWK enc k w0 blk off d w → Srt key tag a m d → Srt key tag m b d → Tg tag a m b d → Calls P 40 #[.slice (some ⟨blk, off, none⟩) N cap, .int .i64 a, .int .i64 m, .int .i64 b, .func (.func g) #[] cb] w fun e w' => e = .returned (.tuple #[]) ∧ ∃ d', SWK enc k w0 blk off d' w' ∧ PermIn a b d d' ∧ Srt key tag a b d'
  | 0, a, m, b, d, w, hG, hm, hb, _, _, _, _, _, _ => by omega
  | G + 1, a, m, b, d, w, hG, hm, hmb, hb, hd, S, h1, h2, hg => by
    by_cases c1 : a + 1 = m
    · exact sym_first L cf key tag hcf g cb blk off cap N d0 w0 eg hcmp R hs hsz a m b d w c1 hmb hb hd S h2 hg
    · by_cases c2 : m + 1 = b
      · exact sym_last L cf key tag hcf g cb blk off cap N d0 w0 eg hcmp R hs hsz a m b d w (by omega) c2 hb hd S h1 hg
      · exact sym_gen L cf key tag hcf g cb blk off cap N d0 w0 eg hcmp R hs hsz (G + 1) (fun a m b d w e1 e2 e3 e4 e5 e6 e7 e8 e9 => sym_any L cf key tag hcf g cb blk off cap N d0 w0 eg hcmp R hs hsz G a m b d w (by omega) e2 e3 e4 e5 e6 e7 e8 e9) a m b d w hG (by omega) (by omega) hb hd S h1 h2 hg
end Go.Proofs.Ytfgelagmjjjlgaa.Nt
