package tests

import (
	"math/rand"
	"slices"
	"strings"

	"loop.example/g00300/impl"
)

// The model has its own numbers, so that the program's constants are asked for, too.
const (
	mostZones = 6
	mostAsks  = 24
)

func wantGoodWorld(w impl.World) bool {
	if len(w.Zones) == 0 || len(w.Zones) > mostZones || w.Zones[0].Apex != "" {
		return false
	}
	for i, z := range w.Zones {
		if !wantGoodZone(z) || i > 0 && orderKey(w.Zones[i-1].Apex) >= orderKey(z.Apex) {
			return false
		}
	}
	return true
}

// wantNumber is the number of the zone with an apex, -1 where there is none.
func wantNumber(w impl.World, apex string) int {
	return slices.IndexFunc(w.Zones, func(z impl.Zone) bool { return z.Apex == apex })
}

// wantZoneFor goes up from the name to the first one that is an apex.
func wantZoneFor(w impl.World, name string) (int, bool) {
	if !wantGoodWorld(w) || !wantGood(name) {
		return 0, false
	}
	for _, above := range wantUpward(name) {
		if at := wantNumber(w, above); at >= 0 {
			return at, true
		}
	}
	panic("no zone of the root")
}

func wantAskFrom(w impl.World, apex, name string, kind int) (impl.Found, bool) {
	at := wantNumber(w, apex)
	if at < 0 || !wantGoodWorld(w) {
		return impl.Found{}, false
	}
	return wantLookUp(w.Zones[at], name, kind)
}

// wantWay is for good worlds: the numbers of the zones that are asked, from this one on.
func wantWay(w impl.World, at int, name string) []int {
	cut, ok := wantCutOver(w.Zones[at], name)
	next := wantNumber(w, cut)
	if !ok || next < 0 {
		return []int{at}
	}
	return append([]int{at}, wantWay(w, next, name)...)
}

func wantReachedBy(w impl.World, name string) ([]string, bool) {
	if !wantGoodWorld(w) || !wantGood(name) {
		return nil, false
	}
	var apexes []string
	for _, at := range wantWay(w, 0, name) {
		apexes = append(apexes, w.Zones[at].Apex)
	}
	return apexes, true
}

func wantDelegated(w impl.World, apex string) (bool, bool) {
	at := wantNumber(w, apex)
	if at < 0 || !wantGoodWorld(w) {
		return false, false
	}
	return at == 0 || slices.Contains(wantWay(w, 0, apex), at), true
}

// wantResolved is for good worlds, and for names and types as said. It goes the whole way of each name at once, and counts in the end.
func wantResolved(w impl.World, name string, kind int, told impl.Told) (impl.Told, bool) {
	way := wantWay(w, 0, name)
	last := w.Zones[way[len(way)-1]]
	found := wantFound(last, name, kind)
	told.Asks += len(way)
	if found.Kind == 2 && len(told.Chain) < mostCnames {
		told.Chain = append(told.Chain, found.Records[0])
		return wantResolved(w, found.Records[0].Data, kind, told)
	}
	if told.Asks > mostAsks {
		return impl.Told{}, false
	}
	told.Kind, told.Records, told.Zone = found.Kind, found.Records, last.Apex
	return told, true
}

func wantResolve(w impl.World, name string, kind int) (impl.Told, bool) {
	if !wantGoodWorld(w) || !wantGood(name) || kind == 6 || !slices.Contains(sixTypes, kind) {
		return impl.Told{}, false
	}
	return wantResolved(w, name, kind, impl.Told{})
}

func wantAddZone(w impl.World, z impl.Zone) (impl.World, bool) {
	if !wantGoodWorld(w) || !wantGoodZone(z) || wantNumber(w, z.Apex) >= 0 || len(w.Zones) == mostZones {
		return impl.World{}, false
	}
	return worldOf(append(slices.Clone(w.Zones), z)...), true
}

// worldOf puts zones into the order of worlds, whatever they are.
func worldOf(zones ...impl.Zone) impl.World {
	zones = slices.Clone(zones)
	slices.SortStableFunc(zones, func(a, b impl.Zone) int { return strings.Compare(orderKey(a.Apex), orderKey(b.Apex)) })
	return impl.World{Zones: zones}
}

func alikeWorlds(a, b impl.World) bool {
	return slices.EqualFunc(a.Zones, b.Zones, alikeZones)
}

func alikeTolds(a, b impl.Told) bool {
	return a.Kind == b.Kind && slices.Equal(a.Records, b.Records) && slices.Equal(a.Chain, b.Chain) && a.Zone == b.Zone && a.Asks == b.Asks
}

var worldApexes = []string{"com", "net", "a.com", "b.com", "c.a.com", "d.c.a.com", "a.net", "e.d.c.a.com"}

// randomWorldName lies at or about an apex, or at another name, so that most names are known somewhere.
func randomWorldName(r *rand.Rand) string {
	if r.Intn(8) == 0 {
		return []string{"", "org", "*", "x.org", "*.com", "q.p.com", "*.net"}[r.Intn(7)]
	}
	apex := worldApexes[r.Intn(len(worldApexes))]
	return []string{"", "x.", "x.", "y.", "z.x.", "*."}[r.Intn(6)] + apex
}

// randomWorldLead leans on names that are below apexes, and has no star.
func randomWorldLead(r *rand.Rand) string {
	return []string{"x.", "x.", "y.", "y.", "", "z.x."}[r.Intn(6)] + worldApexes[r.Intn(len(worldApexes))]
}

func randomWorldRecord(r *rand.Rand) impl.Record {
	name := randomWorldName(r)
	switch r.Intn(8) {
	case 0, 1:
		return addressOf(name, r.Intn(3))
	case 2:
		return noteOf(name, "note")
	}
	return hostOf(name, 5, randomWorldLead(r))
}

// withCuts has most of the cuts that lead from a zone to the apexes that are there, and now and then one to none.
func withCuts(r *rand.Rand, z impl.Zone, apexes []string) impl.Zone {
	for _, apex := range worldApexes {
		likely := 1
		if slices.Contains(apexes, apex) {
			likely = 10
		}
		if cut := hostOf(apex, 2, "ns."+apex); apex != z.Apex && r.Intn(12) < likely && fitsInto(z, cut) {
			z.Records = append(z.Records, cut)
		}
	}
	return z
}

// randomWorld is a good one in which most zones are reached, and names lead from one to another.
func randomWorld(r *rand.Rand) impl.World {
	apexes := []string{""}
	for _, at := range r.Perm(len(worldApexes))[:r.Intn(mostZones)] {
		apexes = append(apexes, worldApexes[at])
	}
	var zones []impl.Zone
	for _, apex := range apexes {
		z := withCuts(r, zoneOf(apex, r.Intn(100)), apexes)
		for range r.Intn(60) {
			if made := randomWorldRecord(r); len(z.Records) < mostInZone && fitsInto(z, made) {
				z.Records = append(z.Records, made)
			}
		}
		z.Records = inOrder(z.Records...)
		zones = append(zones, z)
	}
	return worldOf(zones...)
}

// damagedWorld changes one thing about a world; the world handed in stays as it is.
func damagedWorld(r *rand.Rand, w impl.World) impl.World {
	zones := slices.Clone(w.Zones)
	if len(zones) == 0 {
		return worldOf(zoneOf("com", 3))
	}
	at, other := r.Intn(len(zones)), r.Intn(len(zones))
	switch r.Intn(6) {
	case 0:
		zones[at], zones[other] = zones[other], zones[at]
	case 1:
		zones = slices.Insert(zones, at, zones[other])
	case 2:
		zones = slices.Delete(zones, at, at+1)
	case 3:
		zones = slices.Insert(zones, r.Intn(len(zones)+1), zoneOf([]string{"", "org", "zz", "0"}[r.Intn(4)], 5))
	default:
		zones[at] = damagedZone(r, zones[at])
	}
	return impl.World{Zones: zones}
}
