/- What is drawn of domains: plain facts. -/
import Derived.Test.YtaobhhjdkdoceaaDoorPlain
namespace Go.Proofs.YtaobhhjdkdoceaaDoor
open Go
def strB (l : List Nat) : ByteArray := ⟨(l.map UInt8.ofNat).toArray⟩
-- one.org a.one.org done.org org x.com one.org
def drawS : List ByteArray := [⟨#[111, 110, 101, 46, 111, 114, 103]⟩, ⟨#[97, 46, 111, 110, 101, 46, 111, 114, 103]⟩, ⟨#[100, 111, 110, 101, 46, 111, 114, 103]⟩, ⟨#[111, 114, 103]⟩, ⟨#[120, 46, 99, 111, 109]⟩, ⟨#[111, 110, 101, 46, 111, 114, 103]⟩]
def drawT : List ByteArray := [⟨#[111, 110, 101, 46, 111, 114, 103]⟩, ⟨#[111, 114, 103]⟩, ⟨#[99, 111, 109]⟩, ⟨#[110, 101, 46, 111, 114, 103]⟩, ⟨#[]⟩, ⟨#[97, 46, 111, 110, 101, 46, 111, 114, 103]⟩]
def moreB (s : ByteArray) : ByteArray := ({ data := #[120, 46] } : ByteArray) ++ s
def domLaw (s t : ByteArray) : Bool :=
  !(domB s && domB t) || (inDomB s s && (!domB (moreB s) || (inDomB (moreB s) s && (!inDomB s t || inDomB (moreB s) t))) && !inDomB s (moreB s) && (!inDomB s t || decide (t.size ≤ s.size)))
theorem domLaw_all : drawS.all (fun s => drawT.all fun t => domLaw s t) = true := by decide +kernel
end Go.Proofs.YtaobhhjdkdoceaaDoor
