package tests

import (
	"math/rand"
	"regexp"
	"slices"
	"strings"
)

var labelForm = regexp.MustCompile(`\A(?:[a-z0-9_-]{1,20}|\*)\z`)

// wantPlain writes a name's bytes without any pointer.
func wantPlain(s string) string {
	plain := ""
	for _, label := range wantLabels(s) {
		plain += string([]byte{byte(len(label))}) + label
	}
	return plain + "\x00"
}

func pointerTo(place int) string {
	return string([]byte{byte(192 + place/256), byte(place % 256)})
}

func smallLetters(s string) string {
	b := []byte(s)
	for i, c := range b {
		if c >= 'A' && c <= 'Z' {
			b[i] = c + 32
		}
	}
	return string(b)
}

// wantWalk is the chapter's way through the bytes label by label, each call the rest of a name; pointers must lead below the place given.
func wantWalk(b string, at, below int) (labels []string, places []int, behind int, ok bool) {
	if at < 0 || at >= len(b) {
		return nil, nil, 0, false
	}
	n := int(b[at])
	switch {
	case n == 0:
		return nil, nil, at + 1, true
	case n >= 192:
		if at+1 >= len(b) {
			return nil, nil, 0, false
		}
		to := (n-192)*256 + int(b[at+1])
		if to >= below {
			return nil, nil, 0, false
		}
		labels, _, _, ok = wantWalk(b, to, to)
		return labels, nil, at + 2, ok
	case n >= 64 || at+1+n > len(b):
		return nil, nil, 0, false
	}
	labels, places, behind, ok = wantWalk(b, at+1+n, below)
	return append([]string{smallLetters(b[at+1 : at+1+n])}, labels...), append([]int{at}, places...), behind, ok
}

// wantReadLong is for bytes without a limit, as those of a message's names.
func wantReadLong(b string, at int) (name string, places []int, behind int, ok bool) {
	labels, places, behind, ok := wantWalk(b, at, at)
	name = strings.Join(labels, ".")
	if !ok || !wantGood(name) {
		return "", nil, 0, false
	}
	for _, label := range labels {
		if !labelForm.MatchString(label) {
			return "", nil, 0, false
		}
	}
	return name, places, behind, true
}

func wantRead(b string, at int) (name string, places []int, behind int, ok bool) {
	if len(b) > 600 {
		return "", nil, 0, false
	}
	return wantReadLong(b, at)
}

func wantSuffixesLong(b string) []int {
	var all []int
	for at := 0; ; {
		_, places, behind, ok := wantReadLong(b, at)
		if !ok {
			return all
		}
		all = append(all, places...)
		at = behind
	}
}

func wantSuffixes(b string) ([]int, bool) {
	if len(b) > 600 {
		return nil, false
	}
	return wantSuffixesLong(b), true
}

// wantPutLong is for good names: it tries every place for every suffix, the longest suffix and the least place first.
func wantPutLong(b, s string) string {
	labels, places := wantLabels(s), wantSuffixesLong(b)
	for i := range labels {
		for _, place := range places {
			if told, _, _, ok := wantReadLong(b, place); ok && told == strings.Join(labels[i:], ".") {
				ahead := strings.TrimSuffix(wantPlain(strings.Join(labels[:i], ".")), "\x00")
				return b + ahead + pointerTo(place)
			}
		}
	}
	return b + wantPlain(s)
}

func wantPut(b, s string) (string, bool) {
	if len(b) > 600 || !wantGood(s) {
		return "", false
	}
	longer := wantPutLong(b, s)
	if len(longer) > 600 {
		return "", false
	}
	return longer, true
}

func wantPack(l []string) (string, bool) {
	packed, ok := "", len(l) <= 20
	for _, s := range l {
		if ok {
			packed, ok = wantPut(packed, s)
		}
	}
	if !ok {
		return "", false
	}
	return packed, true
}

func wantUnpack(b string, many int) ([]string, bool) {
	var names []string
	at := 0
	for len(names) < many && many <= 20 {
		name, _, behind, ok := wantRead(b, at)
		if !ok {
			return nil, false
		}
		names = append(names, name)
		at = behind
	}
	if many < 0 || many > 20 || at != len(b) {
		return nil, false
	}
	return names, true
}

// randomName draws from few labels, so that names often end alike.
func randomName(r *rand.Rand) string {
	few := []string{"a", "b", "ex", "com", "org", "*", "x-1", label20}
	labels := make([]string, r.Intn(5))
	for i := range labels {
		labels[i] = few[r.Intn(len(few))]
	}
	name := strings.Join(labels, ".")
	if !wantGood(name) {
		return "com"
	}
	return name
}

func randomNames(r *rand.Rand, most int) []string {
	l := make([]string, r.Intn(most+1))
	for i := range l {
		l[i] = randomName(r)
	}
	return l
}

// randomWire puts pieces of names, pointers and stray bytes behind each other, so that it can be read far, but not always to its end.
func randomWire(r *rand.Rand) string {
	b := ""
	for range r.Intn(12) {
		switch r.Intn(8) {
		case 0:
			b += string([]byte{byte(r.Intn(256))})
		case 1:
			b += pointerTo(r.Intn(len(b) + 3))
		case 2, 3:
			b += strings.TrimSuffix(wantPlain(randomName(r)), "\x00") + pointerTo(r.Intn(len(b)+1))
		case 4:
			b += strings.ToUpper(wantPlain(randomName(r)))
		default:
			b += wantPlain(randomName(r))
		}
	}
	if r.Intn(4) == 0 {
		b = b[:r.Intn(len(b)+1)]
	}
	return b
}

// twentyOf30 are 20 names of which none ends as another does; each is 30 bytes without a pointer, so all of them are just 600.
func twentyOf30() []string {
	var l []string
	for i := range 20 {
		l = append(l, label20+".last-"+string([]byte{'a' + byte(i)})+"z")
	}
	return l
}

func withLast(l []string, s string) []string {
	return append(slices.Clone(l[:len(l)-1]), s)
}
