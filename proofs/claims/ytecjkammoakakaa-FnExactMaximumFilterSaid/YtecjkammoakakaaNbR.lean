/- What the four filters without a threshold answer, by a name for each. -/
import Derived.Test.YtecjkammoakakaaNbFive
import Derived.Test.YtecjkammoakakaaNbSpec5
namespace Go.Proofs.Ytecjkammoakakaa
open Go.RowKit
def maxR (wd hg : Int) (l : List Int) (rad : Int) : Option (Int × Int × List Int) := filtR hiV wd hg l rad
theorem maxR_len (wd hg : Int) (l : List Int) (rad : Int) : (rL (maxR wd hg l rad)).length ≤ 64 := filtR_len _ _ _ _ _
theorem implMaxR_any (wd hg : Int) (a : Option Addr) (l : List Int) (c : Nat) (rad : Int) (w : World) (hl : Ints .i64 w w.heap.size a l) (hn : l.length ≤ 1048576) (hcap : l.length ≤ c) :
    Calls Try.prog 16 #[.agg #[.int .i64 wd, .int .i64 hg, .slice a l.length c], .int .i64 rad] w (FRet (maxR wd hg l rad) w) := implMax_any wd hg a l c rad w hl hn hcap
theorem specMaxR_any (wd hg : Int) (a : Option Addr) (l : List Int) (c : Nat) (rad : Int) (w : World) (hl : Ints .i64 w w.heap.size a l) (hn : l.length ≤ 1048576) :
    Calls Try.prog 20 #[.agg #[.int .i64 wd, .int .i64 hg, .slice a l.length c], .int .i64 rad] w (FRet (maxR wd hg l rad) w) := specMax_any wd hg a l c rad w hl hn
def minR (wd hg : Int) (l : List Int) (rad : Int) : Option (Int × Int × List Int) := filtR loV wd hg l rad
theorem minR_len (wd hg : Int) (l : List Int) (rad : Int) : (rL (minR wd hg l rad)).length ≤ 64 := filtR_len _ _ _ _ _
theorem implMinR_any (wd hg : Int) (a : Option Addr) (l : List Int) (c : Nat) (rad : Int) (w : World) (hl : Ints .i64 w w.heap.size a l) (hn : l.length ≤ 1048576) (hcap : l.length ≤ c) :
    Calls Try.prog 17 #[.agg #[.int .i64 wd, .int .i64 hg, .slice a l.length c], .int .i64 rad] w (FRet (minR wd hg l rad) w) := implMin_any wd hg a l c rad w hl hn hcap
theorem specMinR_any (wd hg : Int) (a : Option Addr) (l : List Int) (c : Nat) (rad : Int) (w : World) (hl : Ints .i64 w w.heap.size a l) (hn : l.length ≤ 1048576) :
    Calls Try.prog 22 #[.agg #[.int .i64 wd, .int .i64 hg, .slice a l.length c], .int .i64 rad] w (FRet (minR wd hg l rad) w) := specMin_any wd hg a l c rad w hl hn
def meanR (wd hg : Int) (l : List Int) (rad : Int) : Option (Int × Int × List Int) := filtR meanF wd hg l rad
theorem meanR_len (wd hg : Int) (l : List Int) (rad : Int) : (rL (meanR wd hg l rad)).length ≤ 64 := filtR_len _ _ _ _ _
theorem implMeanR_any (wd hg : Int) (a : Option Addr) (l : List Int) (c : Nat) (rad : Int) (w : World) (hl : Ints .i64 w w.heap.size a l) (hn : l.length ≤ 1048576) (hcap : l.length ≤ c) :
    Calls Try.prog 18 #[.agg #[.int .i64 wd, .int .i64 hg, .slice a l.length c], .int .i64 rad] w (FRet (meanR wd hg l rad) w) := implMean_any wd hg a l c rad w hl hn hcap
theorem specMeanR_any (wd hg : Int) (a : Option Addr) (l : List Int) (c : Nat) (rad : Int) (w : World) (hl : Ints .i64 w w.heap.size a l) (hn : l.length ≤ 1048576) :
    Calls Try.prog 23 #[.agg #[.int .i64 wd, .int .i64 hg, .slice a l.length c], .int .i64 rad] w (FRet (meanR wd hg l rad) w) := specMean_any wd hg a l c rad w hl hn
def medR (wd hg : Int) (l : List Int) (rad : Int) : Option (Int × Int × List Int) := filtR medF wd hg l rad
theorem medR_len (wd hg : Int) (l : List Int) (rad : Int) : (rL (medR wd hg l rad)).length ≤ 64 := filtR_len _ _ _ _ _
theorem implMedR_any (wd hg : Int) (a : Option Addr) (l : List Int) (c : Nat) (rad : Int) (w : World) (hl : Ints .i64 w w.heap.size a l) (hn : l.length ≤ 1048576) (hcap : l.length ≤ c) :
    Calls Try.prog 19 #[.agg #[.int .i64 wd, .int .i64 hg, .slice a l.length c], .int .i64 rad] w (FRet (medR wd hg l rad) w) := implMed_any wd hg a l c rad w hl hn hcap
theorem specMedR_any (wd hg : Int) (a : Option Addr) (l : List Int) (c : Nat) (rad : Int) (w : World) (hl : Ints .i64 w w.heap.size a l) (hn : l.length ≤ 1048576) :
    Calls Try.prog 24 #[.agg #[.int .i64 wd, .int .i64 hg, .slice a l.length c], .int .i64 rad] w (FRet (medR wd hg l rad) w) := specMed_any wd hg a l c rad w hl hn
end Go.Proofs.Ytecjkammoakakaa
