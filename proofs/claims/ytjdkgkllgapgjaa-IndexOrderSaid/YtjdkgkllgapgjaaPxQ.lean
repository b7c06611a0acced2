/- The program's index does what is asked of it. -/
import Derived.Test.YtjdkgkllgapgjaaPxP
namespace Go.Proofs.Ytjdkgkllgapgjaa.Px
open Ix
open Sp
theorem prg : Ix.Prg XI where
  nw h := new_any h
  ad r s p h1 h2 h3 h4 h hk hG hr hn := ad_any r s p h1 h2 h hk hG hr hn h3 h4
  kl i hi h hk hG := kl_any i h hk hG hi
  go s hs h hk hG := go_any s h hk hG hs
  ne i hi h hk hG := ne_any i h hk hG hi
  at' s p hs hp h hk hG := at_any s p h hk hG hs hp
  ot i s hi hs h hk hG := ot_any i s h hk hG hi hs
  lv h hk hG := lv_any h hk hG
  in' s hs h hk hG := in_any s h hk hG hs
  ids h hk hG := ids_any h hk hG
end Go.Proofs.Ytjdkgkllgapgjaa.Px
