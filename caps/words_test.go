package caps

import (
	"math"
	"slices"
	"strings"
	"testing"

	"conduit/api"
)

// P5.1: just the sets without a bit from NumCaps on.
func TestValid(t *testing.T) {
	for _, c := range allSets() {
		if !Valid(c) {
			t.Errorf("%b: not valid", c)
		}
		for _, more := range beyond() {
			if Valid(c | more) {
				t.Errorf("%b: valid", c|more)
			}
		}
	}
	if Valid(math.MaxUint32) || Valid(2048) || !Valid(2047) || !Valid(0) {
		t.Error("the edges")
	}
}

// The constants are made by iota; the numbers, by api.
func TestNumbered(t *testing.T) {
	own := []api.Caps{canFlush, canClose, canBatch, canAck, canPing, canReset, canSave, canLoad, canName, canUntil, canOpen}
	if !slices.Equal(own, []api.Caps{
		set(api.CapFlush), set(api.CapClose), set(api.CapBatch), set(api.CapAck), set(api.CapPing), set(api.CapReset),
		set(api.CapSave), set(api.CapLoad), set(api.CapName), set(api.CapUntil), set(api.CapOpen),
	}) {
		t.Error(own)
	}
}

// P5.2: the words, there and back.
func TestWords(t *testing.T) {
	for which, word := range map[int]string{
		api.CapFlush: "flush", api.CapClose: "close", api.CapBatch: "batch", api.CapAck: "ack", api.CapPing: "ping", api.CapReset: "reset",
		api.CapSave: "save", api.CapLoad: "load", api.CapName: "name", api.CapUntil: "until", api.CapOpen: "open",
	} {
		if Word(which) != word || Number(word) != which {
			t.Errorf("%d %q: %q %d", which, word, Word(which), Number(word))
		}
	}
}

// P5.2: what is no capability, and what is no word.
func TestNoWords(t *testing.T) {
	for _, which := range noNumbers() {
		if got := Word(which); got != "" {
			t.Errorf("%d: %q", which, got)
		}
	}
	for _, s := range append(noTexts(), "", "flush until") {
		if got := Number(s); got != -1 {
			t.Errorf("%q: %d", s, got)
		}
	}
	for _, word := range chapterWords() {
		for _, s := range []string{word[1:], word[:len(word)-1], word + "s", " " + word, word + " ", strings.ToUpper(word), word + word} {
			if got := Number(s); got != -1 {
				t.Errorf("%q: %d", s, got)
			}
		}
	}
}

// P5.3, of every valid set; bits beyond play no part.
func TestTextAndBack(t *testing.T) {
	for _, c := range allSets() {
		s := Text(c)
		if s != chapterText(c) {
			t.Errorf("%v: %q", members(c), s)
		}
		if got, ok := Parse(s); !ok || got != c {
			t.Errorf("%q: %v %v", s, members(got), ok)
		}
		for _, more := range beyond() {
			if Text(c|more) != s {
				t.Errorf("%b: %q", c|more, Text(c|more))
			}
		}
	}
	if Text(0) != "" || Text(1<<11) != "" || Text(math.MaxUint32) != "flush close batch ack ping reset save load name until open" {
		t.Error("the edges")
	}
}

// P5.3, 0.5: a text of no set.
func TestNoText(t *testing.T) {
	for _, s := range noTexts() {
		if c, ok := Parse(s); ok || c != 0 {
			t.Errorf("%.40q: %v %v", s, members(c), ok)
		}
	}
}

// P5.3, of rows of words and of what is none: just those are right that some set's text is.
func TestRowsOfWords(t *testing.T) {
	texts := map[string]api.Caps{}
	for _, c := range allSets() {
		texts[chapterText(c)] = c
	}
	bits := append(chapterWords(), "", "x", "flush\x00")
	rows := []string{""}
	for range 3 {
		var next []string
		for _, row := range rows {
			for _, bit := range bits {
				next = append(next, row+" "+bit)
			}
		}
		for _, row := range next {
			want, is := texts[row[1:]]
			if got, ok := Parse(row[1:]); ok != is || got != want {
				t.Fatalf("%q: %v %v", row[1:], members(got), ok)
			}
		}
		rows = next
	}
	r := newRandom(1)
	for range 2000 {
		l := members(api.Caps(r.IntN(2048)))
		r.Shuffle(len(l), func(i, j int) { l[i], l[j] = l[j], l[i] })
		var row []string
		for _, k := range l {
			row = append(row, chapterWords()[k])
		}
		if _, ok := Parse(strings.Join(row, " ")); ok != slices.IsSorted(l) {
			t.Fatalf("%q: %v", row, ok)
		}
	}
}
