package tests

import (
	"math"
	"math/rand"
	"slices"
	"strings"

	"loop.example/g00300/impl"
)

// The model has its own number, so that the program's limit is asked for, too.
const mostInProof = 2

func wantStarOf(name string) string {
	return strings.TrimSuffix("*."+name, ".")
}

// wantRing is for good zones: the gaps of all their names.
func wantRing(z impl.Zone) []impl.Gap {
	var l []impl.Gap
	names, _ := wantNames(z)
	for i, name := range names {
		g := impl.Gap{Owner: name, Next: append(names[i+1:], names[0])[0]}
		for _, kind := range sixTypes {
			if len(wantHeld(z, name, kind, name)) > 0 {
				g.Types = append(g.Types, kind)
			}
		}
		l = append(l, g)
	}
	return l
}

func wantGapsOf(z impl.Zone) ([]impl.Gap, bool) {
	if !wantGoodZone(z) {
		return nil, false
	}
	return wantRing(z), true
}

// wantTypes asks how often each of the six is met by going along them: as often as the list has numbers, where it rises.
func wantTypes(l []int) bool {
	met := 0
	for _, kind := range sixTypes {
		if met < len(l) && l[met] == kind {
			met++
		}
	}
	return len(l) > 0 && met == len(l)
}

func wantGoodGaps(apex string, l []impl.Gap) bool {
	if len(l) == 0 || len(l) > mostInZone || !wantGood(apex) {
		return false
	}
	var owners, nexts []string
	for _, g := range l {
		if !wantGood(g.Owner) || !wantBelowName(g.Owner, apex) || !wantTypes(g.Types) {
			return false
		}
		owners, nexts = append(owners, g.Owner), append(nexts, g.Next)
	}
	sorted := slices.Clone(owners)
	slices.SortFunc(sorted, wantOrder)
	sorted = slices.Compact(sorted)
	return owners[0] == apex && slices.Equal(sorted, owners) && slices.Equal(append(owners[1:], apex), nexts)
}

func wantGapNames(g impl.Gap) bool {
	return wantGood(g.Owner) && wantGood(g.Next)
}

// wantBetween sorts Owner, Next and the name, each once; it is for good names.
func wantBetween(g impl.Gap, name string) bool {
	if name == g.Owner || name == g.Next && wantOrder(g.Owner, g.Next) < 0 {
		return false
	}
	names := []string{g.Owner, g.Next, name}
	slices.SortFunc(names, wantOrder)
	if wantOrder(g.Owner, g.Next) >= 0 {
		return slices.Index(names, name) > slices.Index(names, g.Owner)
	}
	return names[1] == name
}

func wantCovers(g impl.Gap, name string) (bool, bool) {
	if !wantGapNames(g) || !wantGood(name) {
		return false, false
	}
	return wantBetween(g, name), true
}

// wantRingGap is the last gap that begins at the name or ahead of it; it is for good gaps.
func wantRingGap(l []impl.Gap, name string) impl.Gap {
	for i := len(l) - 1; i > 0; i-- {
		if wantOrder(l[i].Owner, name) <= 0 {
			return l[i]
		}
	}
	return l[0]
}

func wantGapFor(l []impl.Gap, name string) (impl.Gap, bool) {
	if len(l) == 0 || !wantGoodGaps(l[0].Owner, l) || !wantGood(name) || !wantBelowName(name, l[0].Owner) {
		return impl.Gap{}, false
	}
	return wantRingGap(l, name), true
}

// wantClosest goes up from the name to what Owner or Next is below; it is for good names.
func wantClosest(g impl.Gap, name string) string {
	up := wantUpward(name)
	return up[slices.IndexFunc(up, func(s string) bool { return wantBelowName(g.Owner, s) || wantBelowName(g.Next, s) })]
}

func wantClosestBy(g impl.Gap, name string) (string, bool) {
	if covered, _ := wantCovers(g, name); !covered {
		return "", false
	}
	return wantClosest(g, name), true
}

func wantProof(z impl.Zone, name string) ([]impl.Gap, bool) {
	if !wantWithin(z, name) || wantFound(z, name, 16).Kind != 5 {
		return nil, false
	}
	ring := wantRing(z)
	own, star := wantRingGap(ring, name), wantRingGap(ring, wantStarOf(wantFirstThere(z, name)))
	if own.Owner == star.Owner {
		return []impl.Gap{own}, true
	}
	return []impl.Gap{own, star}, true
}

// wantCovering are those of the gaps that cover a name; it is for good names.
func wantCovering(l []impl.Gap, name string) []impl.Gap {
	return slices.DeleteFunc(slices.Clone(l), func(g impl.Gap) bool { return !wantBetween(g, name) })
}

func wantProves(l []impl.Gap, name string) bool {
	own := wantCovering(l, name)
	if len(own) == 0 || wantClosest(own[0], name) == name {
		return false
	}
	star := wantStarOf(wantClosest(own[0], name))
	for _, g := range wantCovering(l, star) {
		if wantClosest(g, star) != star {
			return true
		}
	}
	return false
}

func wantCheck(apex string, l []impl.Gap, name string) (bool, bool) {
	if !wantGood(apex) || !wantGood(name) || !wantBelowName(name, apex) || len(l) > mostInProof {
		return false, false
	}
	for _, g := range l {
		if !wantGapNames(g) {
			return false, false
		}
	}
	return wantProves(l, name), true
}

func alikeGap(a, b impl.Gap) bool {
	return a.Owner == b.Owner && a.Next == b.Next && slices.Equal(a.Types, b.Types)
}

func alikeGaps(a, b []impl.Gap) bool {
	return slices.EqualFunc(a, b, alikeGap)
}

func cloneGaps(l []impl.Gap) []impl.Gap {
	l = slices.Clone(l)
	for i := range l {
		l[i].Types = slices.Clone(l[i].Types)
	}
	return l
}

// damagedTypes changes one thing about types; the list handed in stays as it is.
func damagedTypes(r *rand.Rand, l []int) []int {
	l = slices.Clone(l)
	if len(l) == 0 {
		return []int{randomInt(r)}
	}
	at, other := r.Intn(len(l)), r.Intn(len(l))
	switch r.Intn(5) {
	case 0:
		return nil
	case 1:
		l[at], l[other] = l[other], l[at]
	case 2:
		l = slices.Insert(l, at, l[other])
	case 3:
		l[at] = r.Intn(18)
	case 4:
		l[at] = []int{math.MinInt, math.MaxInt, -1, 0, l[at] + allSerials}[r.Intn(5)]
	}
	return l
}

// damagedGaps changes one thing about gaps; the gaps handed in stay as they are.
func damagedGaps(r *rand.Rand, l []impl.Gap) []impl.Gap {
	l = cloneGaps(l)
	if len(l) == 0 {
		return []impl.Gap{{}}
	}
	at, other := r.Intn(len(l)), r.Intn(len(l))
	switch r.Intn(8) {
	case 0:
		l[at], l[other] = l[other], l[at]
	case 1:
		l = slices.Insert(l, at, l[other])
	case 2:
		l = slices.Delete(l, at, at+1)
	case 3:
		l[at].Owner = damaged(r, l[at].Owner)
	case 4:
		l[at].Next = damaged(r, l[at].Next)
	case 5:
		l[at].Next = l[other].Owner
	case 6:
		// The whole ring with another name in it.
		l[at].Owner = randomLookName(r, l[0].Owner)
		l[(at+len(l)-1)%len(l)].Next = l[at].Owner
	case 7:
		l[at].Types = damagedTypes(r, l[at].Types)
	}
	return l
}

// randomGaps are few gaps from about an apex, which need not be of one zone.
func randomGaps(r *rand.Rand, ring []impl.Gap, most int) []impl.Gap {
	var l []impl.Gap
	for range r.Intn(most + 1) {
		g := ring[r.Intn(len(ring))]
		if r.Intn(3) == 0 {
			g.Owner = randomLookName(r, ring[0].Owner)
		}
		if r.Intn(3) == 0 {
			g.Next = randomLookName(r, ring[0].Owner)
		}
		l = append(l, g)
	}
	return cloneGaps(l)
}
