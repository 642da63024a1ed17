package bus

import (
	"testing"

	"conduit/api"
)

const chapterConfig = `handler a = count; handler b = echo with buffer 2 0; route "x" -> a; route "x" -> b; route "r" -> a;`

// The chapter's first example: a batch comes to its results when it is full.
func TestExampleBatch(t *testing.T) {
	play(t, chapterConfig,
		"publish x 5 => published 1, queued 1 a, queued 1 b",
		"work 9 => done 1 a 1",
		"publish x 6 => published 2, queued 2 a, queued 2 b",
		"work 9 => done 2 a 2, done 1 b 5, done 2 b 6",
	)
}

// The second one: a request that is answered, and one that is answered too late.
func TestExampleRequest(t *testing.T) {
	play(t, chapterConfig,
		"ask x reply=r for=3 5 => published 1, queued 1 a, queued 1 b",
		"work 1 => done 1 a 1, published 2, answer 2 to 1 1",
	)
	play(t, chapterConfig,
		"ask x reply=r for=3 5 => published 1, queued 1 a, queued 1 b",
		"tick 4 => expired to 1",
		"work 1 => done 1 a 1, published 2, queued 2 a",
	)
}

// The third one: nobody, and closing.
func TestExampleNobody(t *testing.T) {
	play(t, chapterConfig, "publish y 5 => published 1, nobody 1", "call 7 flush nil => called h nobody")
	play(t, chapterConfig,
		"publish x 5 => published 1, queued 1 a, queued 1 b",
		"work 9 => done 1 a 1",
		"close => closed a none, done 1 b 5, closed b none",
	)
}

// The document's examples of the whole, as far as a bus goes through them.
func TestDocument(t *testing.T) {
	play(t, `handler a = count; route "x" -> a;`,
		"publish x nil => published 1, queued 1 a",
		"work 5 => done 1 a 1",
		"publish y nil => published 2, nobody 2",
	)
	play(t, `handler a = unbox; route "x" -> a;`,
		"publish x &nil => published 1, queued 1 a",
		"publish x 5 => published 2, queued 2 a",
		`publish x &2("t") => published 3, queued 3 a`,
		`work 5 => done 1 a panic nil 0, done 2 a panic assert 3, done 3 a "t"`,
	)
	play(t, `handler a = store caps flush, save with mask caps save; handler b = store caps flush, save with open mask caps save; route "x" -> b;`,
		"publish x 7 => published 1, queued 1 b",
		"work 1 => done 1 b 0",
		"deep call a flush nil => called a shown",
		"call b flush nil => called b shown",
		"deep call b flush nil => called b 1",
	)
	play(t, `handler a = echo with buffer 3 0; route "x" -> a;`,
		"publish x 1 => published 1, queued 1 a", "work 1 => -",
		"publish x 2 => published 2, queued 2 a", "work 1 => -",
		"publish x 3 => published 3, queued 3 a", "work 1 => done 1 a 1, done 2 a 2, done 3 a 3",
		"publish x 4 => published 4, queued 4 a", "publish x 5 => published 5, queued 5 a", "work 2 => -",
		"close => done 4 a 4, done 5 a 5, closed a none",
	)
	play(t, `handler a = echo; handler b = echo; route "a/#" when text -> a; route "#" else -> b;`,
		`publish a/1 "s" => published 1, queued 1 a`,
		"publish a/1 5 => published 2, queued 2 b",
		"publish $sys 5 => published 3, nobody 3",
	)
	play(t, `handler a = echo; route "x" -> a;`,
		"ask x reply=r for=2 5 => published 1, queued 1 a",
		"work 1 => done 1 a 5, published 2, answer 2 to 1 5",
		"ask x reply=r for=2 6 => published 3, queued 3 a",
		"tick 3 => expired to 2",
		"work 1 => done 3 a 6, published 4, nobody 4",
	)
	// Handlers are told by their numbers: the first one as a.
	play(t, `handler b = echo caps close after a; handler a = echo caps close;`, "close => closed b none, closed a none")
	play(t, `handler b = echo caps close after a; handler a = echo caps close after b;`, "close => closed a none, closed b none")
}

// The seventh of them: tries within a breaker, which then is open for ten ticks.
func TestDocumentBreaker(t *testing.T) {
	st := play(t, `handler a = fail 3 with retry 4 with breaker 2 10; route "x" -> a;`,
		"publish x 1 => published 1, queued 1 a", "publish x 2 => published 2, queued 2 a",
		"publish x 3 => published 3, queued 3 a", "publish x 4 => published 4, queued 4 a",
		"work 3 => done 1 a code 3, done 2 a code 3, done 3 a open",
		"tick 9 => -",
		"call a ping nil => called a open",
		"tick 1 => -",
		"work 1 => done 4 a code 3",
	)
	if got := st.Posts[0].Built.Wraps[1].Breaker; got != (api.Breaker{Fails: 2, Until: 20}) {
		t.Error(got)
	}
}
