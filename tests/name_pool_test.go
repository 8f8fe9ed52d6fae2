package tests

import (
	"regexp"
	"strings"
)

// Names that stand on the edges of what chapter 1 allows: one byte or one label more makes each of them bad.
var (
	label20  = strings.Repeat("x", 20)
	name60   = label20 + "." + label20 + "." + strings.Repeat("y", 15) + ".ab"
	labels8  = "a.b.c.d.e.f.g.h"
	stars8   = "*.*.*.*.*.*.*.*"
	eightBig = strings.Repeat("1234567.", 4) + strings.Repeat("123456.", 3) + "1234567"
)

// nameForm is the chapter's sentence on names, put another way than the program puts it.
var nameForm = regexp.MustCompile(`\A(?:(?:[a-z0-9_-]{1,20}|\*)(?:\.(?:[a-z0-9_-]{1,20}|\*)){0,7})?\z`)

func wantGood(s string) bool {
	return len(s) <= 60 && nameForm.MatchString(s)
}

func goodNames() []string {
	return []string{
		"", "com", "ex.com", "a.ex.com", "b.ex.com", "z.a.ex.com", "aex.com", "a.b.com", "b.com", "x.b.com",
		"ex.net", "e.com", "exa.com", "ex-.com", "-ex.com", "ex_.com", "_.com", "-", "_", "-.-", "0", "9.0.0.9",
		"*", "*.com", "*.ex.com", "a.*.com", "a.*", "*.*", "co", "comm", "com.com", "com.com.com", "a", "a.a", "a.a.a",
		label20, name60, labels8, stars8, eightBig, "1.ex.com", "a.1", "a1", "a-1", "xn--a.com",
	}
}

func badNames() []string {
	return []string{
		".", "..", ".com", "com.", "a..b", "a.b..", "..a", "a*", "*a", "**", "a*.com", "*a.com", "a.**", "a*b.c",
		"A", "Ex.com", "ex.coM", "Z", "a b", " ", "a ", " a", "a,b", "a/b", "a:b", "a@b", "a[b", "a`b", "a{b", "a+b",
		"\x00", "a\x00", "\xff", "a\n", "\na", "\x7f", "\u00e9", "\u00e4.com", "a\u200b", "\u017f", "\u212a", "\uff41", ".*", "*.",
		label20 + "x", "a." + label20 + "x", label20 + "x.com", name60 + "c", labels8 + ".i", stars8 + ".*",
		eightBig + "8", strings.Repeat("x", 60), strings.Repeat("a.", 30) + "a", strings.Repeat(".", 60),
		strings.Repeat("x", 1<<20), strings.Repeat("a.", 1<<20),
	}
}

// textsOver are all texts of at most so many of these bytes.
func textsOver(bytes string, most int) []string {
	all := []string{""}
	from := 0
	for range most {
		to := len(all)
		for _, s := range all[from:to] {
			for _, c := range []byte(bytes) {
				all = append(all, s+string([]byte{c}))
			}
		}
		from = to
	}
	return all
}

// smallTexts are all texts of at most four bytes over the bytes that chapter 1 tells apart.
func smallTexts() []string {
	return textsOver("ab-_0.*A\x00\xff", 4)
}

// wantLabels splits by hand, so that the tests do not lean on LabelsOf.
func wantLabels(s string) []string {
	var labels []string
	for s != "" {
		label, rest, _ := strings.Cut(s, ".")
		labels = append(labels, label)
		s = rest
	}
	return labels
}

// orderKey is a text whose order by bytes is the order of names: labels from the right, each with a byte below all others behind it.
func orderKey(s string) string {
	key := ""
	for _, label := range wantLabels(s) {
		key = label + "\x00" + key
	}
	return key
}

func wantOrder(a, b string) int {
	return strings.Compare(orderKey(a), orderKey(b))
}
