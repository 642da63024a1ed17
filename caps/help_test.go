package caps

import (
	"math"
	"math/rand/v2"
	"slices"
	"strings"

	"conduit/api"
)

// set is the set of these capabilities.
func set(which ...int) api.Caps {
	var c api.Caps
	for _, k := range which {
		c |= 1 << k
	}
	return c
}

// members is what a set has, rising; bits beyond NumCaps are left out.
func members(c api.Caps) []int {
	var l []int
	for k := 0; k < api.NumCaps; k++ {
		if c>>k&1 == 1 {
			l = append(l, k)
		}
	}
	return l
}

// within tells whether all of a is in b.
func within(a, b api.Caps) bool { return a&b == a }

// allSets is all valid sets.
func allSets() []api.Caps {
	var l []api.Caps
	for c := range api.Caps(2048) {
		l = append(l, c)
	}
	return l
}

// beyond is sets of bits that are no capabilities.
func beyond() []api.Caps {
	l := []api.Caps{math.MaxUint32 - 2047, 3 << 11, 1<<31 | 1<<11}
	for k := 11; k < 32; k++ {
		l = append(l, 1<<k)
	}
	return l
}

// chapterWords is the words as the chapter lists them.
func chapterWords() []string {
	return strings.Split("flush, close, batch, ack, ping, reset, save, load, name, until, open", ", ")
}

// chapterText is P5.3's Text, said of the list of the words.
func chapterText(c api.Caps) string {
	s := ""
	for _, k := range members(c) {
		if s != "" {
			s += " "
		}
		s += chapterWords()[k]
	}
	return s
}

// isProper is the chapter's definition, word by word.
func isProper(c api.Caps) bool {
	l := members(c)
	with := func(one, other int) bool { return !slices.Contains(l, one) || slices.Contains(l, other) }
	return with(api.CapBatch, api.CapFlush) && with(api.CapLoad, api.CapSave) && with(api.CapAck, api.CapUntil) && with(api.CapReset, api.CapPing)
}

// properSets is all valid sets that are proper.
func properSets() []api.Caps {
	return slices.DeleteFunc(allSets(), func(c api.Caps) bool { return !isProper(c) })
}

// noNumbers is numbers that are neither a capability nor a group.
func noNumbers() []int {
	return []int{-1, -2, -11, math.MinInt, 11, 12, 31, 32, 33, 63, 64, 1 << 31, 1 << 32, 1<<32 + 1, math.MaxInt}
}

// noTexts is texts that no set has.
func noTexts() []string {
	return []string{
		" ", "  ", "x", "Flush", "FLUSH", "flus", "flushh", "flush\x00", "flush\n", "\xff", "flushing", "0", "drain", "handle",
		" flush", "flush ", "  flush", "flush  ", " flush ", "flush  until", "flush\tuntil", "flush,until", "flush, until", "flushuntil",
		"until flush", "flush flush", "flush close flush", "close flush batch", "flush until until", "open flush",
		"flush x", "x flush", "flush x until", "flush until x", "flush Until", "flush  close batch", "flush close  batch",
		strings.Repeat(" ", 1000), strings.Repeat("flush ", 1000) + "flush", strings.Repeat("x", 100000),
	}
}

func newRandom(seed uint64) *rand.Rand { return rand.New(rand.NewPCG(seed, 5)) }
