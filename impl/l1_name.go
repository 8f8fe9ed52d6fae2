package impl

import (
	"cmp"
	"slices"
	"strings"
)

const MaxName = 60
const MaxLabels = 8
const MaxLabel = 20

// A list to sort has a limit of its own; it only happens to be MaxName's number.
const maxSorted = 60

const starLabel = "*"

const (
	strangeByte = iota
	plainByte
	greatByte
)

type byteRange struct {
	first byte
	last  byte
	kind  int
}

// The star and the dot are not here: neither may stand among other bytes of a label.
var byteRanges = [...]byteRange{
	{'-', '-', plainByte},
	{'0', '9', plainByte},
	{'A', 'Z', greatByte},
	{'_', '_', plainByte},
	{'a', 'z', plainByte},
}

func kindOfByte(c byte) int {
	for _, r := range byteRanges {
		if r.first <= c && c <= r.last {
			return r.kind
		}
	}
	return strangeByte
}

func foldBytes(s string) string {
	folded := []byte(s)
	for i, c := range folded {
		if kindOfByte(c) == greatByte {
			folded[i] = c - 'A' + 'a'
		}
	}
	return string(folded)
}

func isLabel(s string) bool {
	if s == starLabel {
		return true
	}
	if len(s) < 1 || len(s) > MaxLabel {
		return false
	}
	for i := 0; i < len(s); i++ {
		if kindOfByte(s[i]) != plainByte {
			return false
		}
	}
	return true
}

func areLabels(labels ...string) bool {
	if len(labels) > MaxLabels {
		return false
	}
	for _, label := range labels {
		if !isLabel(label) {
			return false
		}
	}
	return true
}

// splitName cuts a name into pieces of its own memory: they are for use inside alone.
func splitName(s string) ([]string, bool) {
	if s == "" {
		return nil, true
	}
	if len(s) > MaxName {
		return nil, false
	}
	labels := strings.Split(s, ".")
	if !areLabels(labels...) {
		return nil, false
	}
	return labels, true
}

func splitBoth(a string, b string) ([]string, []string, bool) {
	first, good := splitName(a)
	second, alsoGood := splitName(b)
	if !good || !alsoGood {
		return nil, nil, false
	}
	return first, second, true
}

// joinLabels copies, since strings.Join hands a single label back as it is and an answer must be new memory.
func joinLabels(labels ...string) string {
	var joined []byte
	for i, label := range labels {
		if i > 0 {
			joined = append(joined, '.')
		}
		joined = append(joined, label...)
	}
	return string(joined)
}

// alikeFromRight counts the labels that both have in common, from the right up to the first unlike one.
func alikeFromRight(a []string, b []string) int {
	n := 0
	for n < len(a) && n < len(b) && a[len(a)-1-n] == b[len(b)-1-n] {
		n++
	}
	return n
}

func compareLabels(a []string, b []string) int {
	n := alikeFromRight(a, b)
	if n == len(a) || n == len(b) {
		return cmp.Compare(len(a), len(b))
	}
	return strings.Compare(a[len(a)-1-n], b[len(b)-1-n])
}

// orderOfNames is for names that are known to be good.
func orderOfNames(a string, b string) int {
	order, _ := CompareNames(a, b)
	return order
}

// liesBelow is for names that are known to be good.
func liesBelow(a string, b string) bool {
	return a == b || b == "" || strings.HasSuffix(a, "."+b)
}

func GoodName(s string) bool {
	_, ok := splitName(s)
	return ok
}

func LabelsOf(s string) ([]string, bool) {
	labels, ok := splitName(s)
	for i, label := range labels {
		labels[i] = strings.Clone(label)
	}
	return labels, ok
}

func NameOf(l []string) (string, bool) {
	if !areLabels(l...) {
		return "", false
	}
	name := joinLabels(l...)
	if len(name) > MaxName {
		return "", false
	}
	return name, true
}

func ParentOf(s string) (string, bool) {
	labels, ok := splitName(s)
	if !ok || len(labels) == 0 {
		return "", false
	}
	return joinLabels(labels[1:]...), true
}

func IsBelow(a string, b string) (bool, bool) {
	if !GoodName(a) || !GoodName(b) {
		return false, false
	}
	return liesBelow(a, b), true
}

func CompareNames(a string, b string) (int, bool) {
	first, second, ok := splitBoth(a, b)
	if !ok {
		return 0, false
	}
	return compareLabels(first, second), true
}

func SortNames(l []string) ([]string, bool) {
	if len(l) > maxSorted {
		return nil, false
	}
	sorted := make([]string, 0, len(l))
	for _, s := range l {
		if !GoodName(s) {
			return nil, false
		}
		sorted = append(sorted, strings.Clone(s))
	}
	slices.SortFunc(sorted, orderOfNames)
	return slices.Compact(sorted), true
}

func FoldName(s string) (string, bool) {
	// Ahead of the copy, so that no text, however long, is copied in vain.
	if len(s) > MaxName {
		return "", false
	}
	name := foldBytes(s)
	if !GoodName(name) {
		return "", false
	}
	return name, true
}

func CommonOf(a string, b string) (string, bool) {
	first, second, ok := splitBoth(a, b)
	if !ok {
		return "", false
	}
	n := alikeFromRight(first, second)
	return joinLabels(first[len(first)-n:]...), true
}

func WildOf(s string) (string, bool) {
	labels, ok := splitName(s)
	if !ok || len(labels) == 0 {
		return "", false
	}
	labels[0] = starLabel
	return joinLabels(labels...), true
}
