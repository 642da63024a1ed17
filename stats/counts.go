package stats

import (
	"strconv"
	"strings"

	"conduit/api"
)

// worth is what one event adds to the counts of the handler that it names.
func worth(happening any) api.Counts {
	switch h := happening.(type) {
	case queued:
		return api.Counts{Queued: 1}
	case refused:
		return api.Counts{Refused: 1}
	case dropped:
		return api.Counts{Dropped: 1}
	case late:
		return api.Counts{Late: 1}
	case done:
		return h.worth()
	}
	return api.Counts{}
}

func (d done) worth() api.Counts {
	c := api.Counts{Done: 1, Wait: d.wait, Longest: d.wait}
	switch d.err {
	case api.OK:
		c.Good = 1
	case api.ErrPanic:
		c.Panics = 1
	}
	return c
}

// Add is two counts together.
func Add(a, b api.Counts) api.Counts {
	return api.Counts{
		Queued:  a.Queued + b.Queued,
		Refused: a.Refused + b.Refused,
		Dropped: a.Dropped + b.Dropped,
		Late:    a.Late + b.Late,
		Done:    a.Done + b.Done,
		Good:    a.Good + b.Good,
		Panics:  a.Panics + b.Panics,
		Wait:    a.Wait + b.Wait,
		Longest: max(a.Longest, b.Longest),
	}
}

// Text writes counts.
func Text(p api.Plan, l []api.Counts) string {
	var b strings.Builder
	for i, h := range p.Handlers {
		var c api.Counts
		if i < len(l) {
			c = l[i]
		}
		b.WriteString(h.Name)
		writeCounts(&b, c)
		b.WriteByte('\n')
	}
	return b.String()
}

func writeCounts(b *strings.Builder, c api.Counts) {
	for _, f := range []struct {
		word  string
		count int64
	}{
		{" queued ", c.Queued},
		{" refused ", c.Refused},
		{" dropped ", c.Dropped},
		{" late ", c.Late},
		{" done ", c.Done},
		{" good ", c.Good},
		{" panics ", c.Panics},
		{" wait ", c.Wait},
		{" longest ", c.Longest},
	} {
		b.WriteString(f.word)
		b.WriteString(strconv.FormatInt(f.count, 10))
	}
}
