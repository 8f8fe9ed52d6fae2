package tests

import (
	"fmt"
	"math/rand"
	"slices"
	"strings"

	"loop.example/g00300/impl"
)

// The model has its own numbers, so that the program's constants are asked for, too.
const (
	mostCnames = 8
	mostLeads  = 12
)

// wantUpward are a name and all that it is below, the root last.
func wantUpward(name string) []string {
	labels := wantLabels(name)
	var l []string
	for i := range len(labels) + 1 {
		l = append(l, strings.Join(labels[i:], "."))
	}
	return l
}

// wantAllThere are all names that are there: those with records, and what these are below.
func wantAllThere(z impl.Zone) []string {
	var there []string
	for _, r := range z.Records {
		there = append(there, wantUpward(r.Name)...)
	}
	return there
}

func wantIsThere(z impl.Zone, name string) (bool, bool) {
	if !wantGoodZone(z) || !wantGood(name) {
		return false, false
	}
	return slices.Contains(wantAllThere(z), name), true
}

func wantWithin(z impl.Zone, name string) bool {
	return wantGoodZone(z) && wantGood(name) && wantBelowName(name, z.Apex)
}

// wantFirstThere is for names below the apex of a good zone.
func wantFirstThere(z impl.Zone, name string) string {
	there := wantAllThere(z)
	up := wantUpward(name)
	return up[slices.IndexFunc(up, func(s string) bool { return slices.Contains(there, s) })]
}

func wantEncloser(z impl.Zone, name string) (string, bool) {
	if !wantWithin(z, name) {
		return "", false
	}
	return wantFirstThere(z, name), true
}

// wantHeld are the records of a name and a type, told of another name.
func wantHeld(z impl.Zone, at string, kind int, name string) []impl.Record {
	var l []impl.Record
	for _, r := range z.Records {
		if r.Name == at && r.Type == kind {
			r.Name = name
			l = append(l, r)
		}
	}
	return l
}

// wantCutOver goes down from the apex, for names below that of a good zone.
func wantCutOver(z impl.Zone, name string) (string, bool) {
	up := wantUpward(name)
	for i := len(up) - 1; i >= 0; i-- {
		if len(up[i]) > len(z.Apex) && len(wantHeld(z, up[i], 2, up[i])) > 0 {
			return up[i], true
		}
	}
	return "", false
}

func wantCutAbove(z impl.Zone, name string) (string, bool) {
	if !wantWithin(z, name) {
		return "", false
	}
	return wantCutOver(z, name)
}

// wantFound is for good zones, and for names and types as said.
func wantFound(z impl.Zone, name string, kind int) impl.Found {
	if !wantBelowName(name, z.Apex) {
		return impl.Found{Kind: 6}
	}
	if cut, ok := wantCutOver(z, name); ok {
		return impl.Found{Kind: 3, Owner: cut, Records: wantHeld(z, cut, 2, cut)}
	}
	at, encloser := name, wantFirstThere(z, name)
	if encloser != name {
		at = strings.TrimSuffix("*."+encloser, ".")
	}
	data, cname := wantHeld(z, at, kind, name), wantHeld(z, at, 5, name)
	switch {
	case !slices.Contains(wantAllThere(z), at):
		return impl.Found{Kind: 5, Owner: encloser}
	case len(data) == 0 && len(cname) == 0:
		return impl.Found{Kind: 4, Owner: at}
	case len(data) == 0:
		return impl.Found{Kind: 2, Owner: at, Records: cname}
	}
	return impl.Found{Kind: 1, Owner: at, Records: data}
}

func wantMayLookUp(z impl.Zone, name string, kind int) bool {
	return wantGoodZone(z) && wantGood(name) && slices.Contains(sixTypes, kind) && (kind != 6 || name == z.Apex)
}

func wantLookUp(z impl.Zone, name string, kind int) (impl.Found, bool) {
	if !wantMayLookUp(z, name, kind) {
		return impl.Found{}, false
	}
	return wantFound(z, name, kind), true
}

// wantChase is for the same arguments as wantFound.
func wantChase(z impl.Zone, name string, kind int, chain []impl.Record) impl.Found {
	found := wantFound(z, name, kind)
	if found.Kind != 2 || len(chain) == mostCnames {
		found.Chain = chain
		return found
	}
	return wantChase(z, found.Records[0].Data, kind, append(chain, found.Records[0]))
}

func wantChaseIn(z impl.Zone, name string, kind int) (impl.Found, bool) {
	if !wantMayLookUp(z, name, kind) {
		return impl.Found{}, false
	}
	return wantChase(z, name, kind, nil), true
}

func wantGlue(z impl.Zone, l []impl.Record) ([]impl.Record, bool) {
	if !wantGoodZone(z) || len(l) > mostLeads {
		return nil, false
	}
	var glue []impl.Record
	for _, r := range l {
		host, ok := wantTarget(r)
		if !ok || r.Type == 5 {
			return nil, false
		}
		for _, address := range wantHeld(z, host, 1, host) {
			if !slices.Contains(glue, address) {
				glue = append(glue, address)
			}
		}
	}
	return glue, true
}

func alikeFounds(a, b impl.Found) bool {
	return a.Kind == b.Kind && a.Owner == b.Owner && slices.Equal(a.Records, b.Records) && slices.Equal(a.Chain, b.Chain)
}

var lookFronts = []string{
	"", "a.", "b.a.", "c.b.a.", "d.", "e.d.", "f.e.d.", "*.", "*.a.", "*.b.a.", "*.d.", "a.*.", "*.*.", "b.a.*.", "g.", "h.g.",
}

// randomLookName draws from few names about the apex; now and then it is not below it, or longer than those of records.
func randomLookName(r *rand.Rand, apex string) string {
	name := strings.TrimSuffix(lookFronts[r.Intn(len(lookFronts))]+apex, ".")
	switch r.Intn(12) {
	case 0:
		return strings.TrimSuffix([]string{"x.", "a.", "*.", "y.x."}[r.Intn(4)]+name, ".")
	case 1:
		return []string{"", "com", "other", "a.other", "*", "b.c", "aex.com"}[r.Intn(7)]
	}
	return name
}

// randomLead is a name to which a record may lead: one without a star.
func randomLead(r *rand.Rand, apex string) string {
	for {
		if name := randomLookName(r, apex); name != "" && !strings.Contains(name, "*") {
			return name
		}
	}
}

func randomLookRecord(r *rand.Rand, apex string) impl.Record {
	kind := []int{1, 1, 5, 5, 5, 2, 15, 16}[r.Intn(8)]
	made := impl.Record{Name: randomLookName(r, apex), Type: kind, Ttl: 60}
	switch kind {
	case 1:
		made.Data = fmt.Sprintf("1.2.3.%d", r.Intn(3))
	case 15:
		made.Data = fmt.Sprintf("%d %s", r.Intn(2), randomLead(r, apex))
	case 16:
		made.Data = []string{"", "note"}[r.Intn(2)]
	default:
		made.Data = randomLead(r, apex)
	}
	return made
}

// fitsInto tells whether a record may stand beside all that are there.
func fitsInto(z impl.Zone, made impl.Record) bool {
	if len(wantPairRules(z.Apex, made, made, true)) > 0 || slices.Contains(z.Records, made) {
		return false
	}
	for _, r := range z.Records {
		if len(wantPairRules(z.Apex, made, r, false))+len(wantPairRules(z.Apex, r, made, false)) > 0 {
			return false
		}
	}
	return true
}

// randomLookZone is a good zone in which names lead to each other, with stars and cuts.
func randomLookZone(r *rand.Rand) impl.Zone {
	z := zoneOf([]string{"ex.com", "ex.com", "", "com"}[r.Intn(4)], r.Intn(100))
	for range r.Intn(30) {
		if made := randomLookRecord(r, z.Apex); fitsInto(z, made) {
			z.Records = append(z.Records, made)
		}
	}
	z.Records = inOrder(z.Records...)
	return z
}

// randomLeads are records of which GlueFor may be asked, many of the zone's own among them.
func randomLeads(r *rand.Rand, z impl.Zone, most int) []impl.Record {
	var l []impl.Record
	for range r.Intn(most + 1) {
		kind := []int{2, 15}[r.Intn(2)]
		host := randomLead(r, z.Apex)
		if at := z.Records[r.Intn(len(z.Records))].Name; at != "" && !strings.Contains(at, "*") {
			host = at
		}
		l = append(l, hostOf(randomLookName(r, z.Apex), kind, []string{"", "7 "}[kind/15]+host))
	}
	return l
}
