import Derived.Test.YthopgmmodldljaaDfa
import Derived.Test.YthopgmmodldljaaDfb
import Derived.Test.YthopgmmodldljaaDfc
import Derived.Test.YthopgmmodldljaaDfd
import Derived.Test.YthopgmmodldljaaDfe
import Derived.Test.YthopgmmodldljaaDff
namespace Go.Proofs.Ythopgmmodldljaa
open Go Go.RowKit
set_option linter.unusedVariables false
theorem proc50_any {w : World} {X Y : Nat} (hX : X ≤ w.heap.size) (hY : Y ≤ w.heap.size) (p q : Pc) (np1 gp1 np2 gp2 : Option Addr) (n m g h nc1 gc1 nc2 gc2 : Nat) (hn : n = p.nodes.length) (hm : m = q.nodes.length) (hb1 : p.pages.length ≤ 10000000) (hb2 : q.pages.length ≤ 10000000) (hG1 : Gs w X (.slice gp1 g gc1) p.pages) (hG2 : Gs w Y (.slice gp2 h gc2) q.pages) : Calls Try.prog 50 #[.agg (p.l (.slice np1 n nc1) (.slice gp1 g gc1)).toArray, .agg (q.l (.slice np2 m nc2) (.slice gp2 h gc2)).toArray] w fun e w' => e = .returned (.bool (cmP p q)) ∧ Below w.heap.size w w' := by
  cases h0 : (p.c 0 == q.c 0)
  · exact proc50_0 hX hY p q np1 gp1 np2 gp2 n m g h nc1 gc1 nc2 gc2 hn hm hb1 hb2 hG1 hG2 h0
  · skip
    cases h1 : (p.c 1 == q.c 1)
    · exact proc50_1 hX hY p q np1 gp1 np2 gp2 n m g h nc1 gc1 nc2 gc2 hn hm hb1 hb2 hG1 hG2 h0 h1
    · skip
      cases h2 : (p.c 2 == q.c 2)
      · exact proc50_2 hX hY p q np1 gp1 np2 gp2 n m g h nc1 gc1 nc2 gc2 hn hm hb1 hb2 hG1 hG2 h0 h1 h2
      · skip
        cases h3 : (p.c 3 == q.c 3)
        · exact proc50_3 hX hY p q np1 gp1 np2 gp2 n m g h nc1 gc1 nc2 gc2 hn hm hb1 hb2 hG1 hG2 h0 h1 h2 h3
        · skip
          cases h4 : chB p.c q.c
          · exact proc50_4 hX hY p q np1 gp1 np2 gp2 n m g h nc1 gc1 nc2 gc2 hn hm hb1 hb2 hG1 hG2 h0 h1 h2 h3 h4
          · skip
            cases h5 : (p.kil == q.kil)
            · exact proc50_5 hX hY p q np1 gp1 np2 gp2 n m g h nc1 gc1 nc2 gc2 hn hm hb1 hb2 hG1 hG2 h0 h1 h2 h3 h4 h5
            · skip
              cases h6 : (p.c 7 == q.c 7)
              · exact proc50_6 hX hY p q np1 gp1 np2 gp2 n m g h nc1 gc1 nc2 gc2 hn hm hb1 hb2 hG1 hG2 h0 h1 h2 h3 h4 h5 h6
              · skip
                cases h7 : rgB p.c q.c
                · exact proc50_7 hX hY p q np1 gp1 np2 gp2 n m g h nc1 gc1 nc2 gc2 hn hm hb1 hb2 hG1 hG2 h0 h1 h2 h3 h4 h5 h6 h7
                · skip
                  cases h8 : (p.c 41 == q.c 41)
                  · exact proc50_8 hX hY p q np1 gp1 np2 gp2 n m g h nc1 gc1 nc2 gc2 hn hm hb1 hb2 hG1 hG2 h0 h1 h2 h3 h4 h5 h6 h7 h8
                  · skip
                    cases h9 : fdB p.c q.c
                    · exact proc50_9 hX hY p q np1 gp1 np2 gp2 n m g h nc1 gc1 nc2 gc2 hn hm hb1 hb2 hG1 hG2 h0 h1 h2 h3 h4 h5 h6 h7 h8 h9
                    · skip
                      cases h10 : (p.c 62 == q.c 62)
                      · exact proc50_10 hX hY p q np1 gp1 np2 gp2 n m g h nc1 gc1 nc2 gc2 hn hm hb1 hb2 hG1 hG2 h0 h1 h2 h3 h4 h5 h6 h7 h8 h9 h10
                      · skip
                        cases h11 : (p.inC == q.inC)
                        · exact proc50_11 hX hY p q np1 gp1 np2 gp2 n m g h nc1 gc1 nc2 gc2 hn hm hb1 hb2 hG1 hG2 h0 h1 h2 h3 h4 h5 h6 h7 h8 h9 h10 h11
                        · skip
                          cases h12 : peB p.c q.c
                          · exact proc50_12 hX hY p q np1 gp1 np2 gp2 n m g h nc1 gc1 nc2 gc2 hn hm hb1 hb2 hG1 hG2 h0 h1 h2 h3 h4 h5 h6 h7 h8 h9 h10 h11 h12
                          · skip
                            cases h13 : ((n : Int) == (m : Int))
                            · exact proc50_13 hX hY p q np1 gp1 np2 gp2 n m g h nc1 gc1 nc2 gc2 hn hm hb1 hb2 hG1 hG2 h0 h1 h2 h3 h4 h5 h6 h7 h8 h9 h10 h11 h12 h13
                            · skip
                              cases h14 : ((g : Int) == (h : Int))
                              · exact proc50_14 hX hY p q np1 gp1 np2 gp2 n m g h nc1 gc1 nc2 gc2 hn hm hb1 hb2 hG1 hG2 h0 h1 h2 h3 h4 h5 h6 h7 h8 h9 h10 h11 h12 h13 h14
                              · exact proc50_15 hX hY p q np1 gp1 np2 gp2 n m g h nc1 gc1 nc2 gc2 hn hm hb1 hb2 hG1 hG2 h0 h1 h2 h3 h4 h5 h6 h7 h8 h9 h10 h11 h12 h13 h14
end Go.Proofs.Ythopgmmodldljaa
