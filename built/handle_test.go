package built

import (
	"strconv"
	"strings"
	"testing"

	"conduit/api"
)

// P20.2: any message, through any fit chain, from any fit state on.
func TestHandleAsSaid(t *testing.T) {
	r := newRandom(2)
	seen := map[string]int{}
	for range 40000 {
		ch := randomChain(t, r)
		c := randomCall(r, ch, randomState(r, ch))
		c.what, c.m = callHandle, randomMsg(r)
		x := c.asSaid(t)
		switch {
		case len(x.done) == 0:
			seen["held"]++
		case !x.own:
			seen["others alone"]++
		default:
			seen[x.done[len(x.done)-1].Result.Err.Error()]++
			if len(x.done) > 1 {
				seen["others, then own"]++
			}
		}
	}
	for _, what := range []string{"held", "others alone", "others, then own", "error 0", "error 12", "error 100", "error 101", "error 110", "error 130", "error 140", "error 150", "error 170", "error 171", "error 200"} {
		if seen[what] < 30 {
			t.Error(what, seen[what])
		}
	}
}

// P20.2: a core alone: its own result, at once.
func TestCoreAlone(t *testing.T) {
	play(t, "echo", "1 5 => 1=5*", "-3 nil => -3=nil*", `0 (1, [2]) => 0=(1, [2])*`)
	play(t, "mute", "1 5 => 1=none*")
	play(t, "none", "1 5 => 1=error 101*")
	play(t, "store 1", "1 5 => 1=0*", "2 6 => 2=code 1*", "3 [1] => 3=panic compare 0*")
	play(t, "panic -3", "1 5 => 1=panic error -3*")
	play(t, "nth 1", "1 [1] => 1=panic index 1*", "2 [1, 2] => 2=2*")
}

// P20.2: these play no part in handling, however many there are.
func TestPlain(t *testing.T) {
	for _, w := range []string{"through", "open through", "mask caps name", "open mask caps flush", "hide", "open hide", "give caps ping", "open give caps flush, until, load"} {
		play(t, "count with "+w, "1 5 => 1=1*", "1 5 => 1=2*", "tick => -")
		play(t, "fail 7"+strings.Repeat(" with "+w, 8), "1 5 => 1=code 7*", "tick => -")
	}
}

// P20.2: tries end with the A-th one, or with a result that is not worth another.
func TestRetry(t *testing.T) {
	for _, c := range []struct {
		core  string
		body  string
		want  string
		again bool
	}{
		{"fail 3", "1", "code 3", true},
		{"fail 0", "1", "code 0", true},
		{"fail -1", "1", "code -1", false},
		{"none", "1", "error 101", true},
		{"panic 5", "1", "panic own 5", true},
		{"panic -5", "1", "panic error -5", true},
		{"unbox", "&nil", "panic nil 0", true},
		{"unbox", "1", "panic assert 3", false},
		{"nth 3", "[1]", "panic index 3", true},
		{"nth 3", "1", "panic assert 1", false},
		{"store", "[1]", "panic compare 0", false},
		{"echo", "1", "1", false},
		{"mute", "1", "none", false},
	} {
		for _, tries := range []int64{1, 2, 15, 16} {
			made := int64(1)
			if c.again {
				made = tries
			}
			st := play(t, c.core+" with limit 1000 1 with retry "+strconv.FormatInt(tries, 10), "1 "+c.body+" => 1="+c.want+"*")
			if st.Wraps[0].Limit.Level != 1000-made {
				t.Errorf("%s, %d tries: %v", c.core, tries, st)
			}
		}
	}
}

// P20.2: what a retry tries again may have changed on the way.
func TestRetryAround(t *testing.T) {
	// Behind the limit's tokens, what is tried again is refused.
	play(t, "fail 1 with limit 3 9 with retry 3", "1 1 => 1=code 1*", "2 1 => 2=error 130*")
	play(t, "fail 1 with limit 3 9 with retry 4", "1 1 => 1=error 130*", "at 3", "2 1 => 2=error 130*", "at 9", "3 1 => 3=error 130*")
	// A breaker opens on the way; what is seen once is seen.
	play(t, "fail 1 with breaker 2 9 with retry 2", "1 1 => 1=code 1*", "2 1 => 2=error 140*")
	play(t, "fail 1 with breaker 2 9 with retry 3", "1 1 => 1=error 140*", "at 9", "2 1 => 2=error 140*")
	play(t, "fail 1 with dedup 4 with retry 2", "1 1 => 1=error 150*")
	play(t, "fail 1 with retry 2 with dedup 4", "1 1 => 1=code 1*", "1 1 => 1=error 150*")
	// Refusals that come again are not tried again.
	play(t, "fail 1 with filter when text with retry 3", "1 1 => 1=error 171*")
	play(t, "fail 1 with until 3 with retry 3", "at 9", "1@5 1 => 1=error 170*")
	play(t, "fail 1 with map:size with retry 3", "1 1 => 1=error 12*")
}

// P20.2: around a buffer: others pass, with each try as they come; where the last try is held, its own result has not come.
func TestRetryAroundBuffer(t *testing.T) {
	st := play(t, "fail 1 with buffer 2 0 with retry 3", "1 1 => -", "2 1 => 1=code 1", "3 1 => 2=code 1", "flush nil => 1 beside 3=code 1")
	if len(Held(st)) != 0 {
		t.Error(st)
	}
	play(t, "count with buffer 2 0 with retry 3", "1 1 => -", "2 1 => 1=1, 2=2*")
	play(t, "nth 0 with buffer 2 0 with retry 3", "1 [] => -", "2 [5] => 1=panic index 0, 2=5*", "3 [7] => -", "4 [] => 3=7", "5 [] => 4=panic index 0", "6 [6] => 5=panic index 0, 6=6*")
	play(t, "fail 1 with buffer 1 0 with retry 3", "1 1 => 1=code 1*")
	// The limit within lets go on what came first.
	play(t, "fail 1 with limit 1 9 with buffer 2 0 with retry 16", "1 1 => -", "2 1 => 1=code 1", "3 1 => 2=error 130")
	// A retry within tries each of them.
	st = play(t, "fail 1 with limit 1000 1 with retry 3 with buffer 2 0", "1 1 => -", "2 1 => 1=code 1, 2=code 1*")
	if st.Wraps[0].Limit.Level != 994 {
		t.Error(st)
	}
}

// P20.2: as many tries as all retries' numbers multiplied, as long as they change anything; and where nothing changes, it ends all the same.
func TestRetryAroundRetry(t *testing.T) {
	retries := func(n int) string { return strings.Repeat(" with retry 16", n) }
	for _, c := range []struct {
		config string
		want   string
		st     api.WrapState
	}{
		{"fail 1 with limit 1000000 1" + retries(1), "code 1", api.WrapState{Limit: api.Limit{Level: 1000000 - 16}}},
		{"fail 1 with limit 1000000 1" + retries(2), "code 1", api.WrapState{Limit: api.Limit{Level: 1000000 - 256}}},
		{"fail 1 with limit 1000000 1" + retries(3), "code 1", api.WrapState{Limit: api.Limit{Level: 1000000 - 4096}}},
		{"fail 1 with limit 1000000 1" + retries(4), "code 1", api.WrapState{Limit: api.Limit{Level: 1000000 - 65536}}},
		{"fail 1 with limit 1000000 1" + retries(5), "error 130", api.WrapState{}},
		{"fail 1 with limit 1000000 1" + retries(7), "error 130", api.WrapState{}},
		{"fail 1 with breaker 1000 5" + retries(2), "code 1", api.WrapState{Breaker: api.Breaker{Fails: 256}}},
		{"fail 1 with breaker 1000 5" + retries(3), "error 140", api.WrapState{Breaker: api.Breaker{Fails: 1000, Until: 5}}},
		{"fail 1 with breaker 1000 5" + retries(7), "error 140", api.WrapState{Breaker: api.Breaker{Fails: 1000, Until: 5}}},
		{"fail 1 with buffer 1 0" + retries(7), "code 1", api.WrapState{}},
		{"fail 1" + retries(8), "code 1", api.WrapState{}},
		{"none" + retries(8), "error 101", api.WrapState{}},
		{"panic 3" + retries(8), "panic own 3", api.WrapState{}},
		{"fail 1 with dedup 4096" + retries(7), "error 150", api.WrapState{Dedup: api.Dedup{Ids: []int64{1}}}},
	} {
		ch := chain(t, c.config)
		st, done, own := Handle(ch, New(ch, 0), api.Msg{Id: 1, Topic: "t"}, 0)
		if got := showAll(done, own); got != "1="+c.want+"*" || !sameWrap(st.Wraps[0], c.st) || !Fit(ch, st) {
			t.Errorf("%s: %s, %v", c.config, got, st)
		}
	}
}

// P20.2: tokens are taken as time goes; a bucket that refuses is as of that tick.
func TestLimit(t *testing.T) {
	st := play(t, "count with limit 2 10", "1 1 => 1=1*", "2 1 => 2=2*", "3 1 => 3=error 130*", "at 4", "4 1 => 4=error 130*")
	if st.Wraps[0].Limit != (api.Limit{Level: 8, Last: 4}) {
		t.Error(st)
	}
	playFrom(t, chain(t, "count with limit 2 10"), st, "at 5", "5 1 => 5=3*", "6 1 => 6=error 130*", "at 3", "7 1 => 7=error 130*")
}

// P20.2: a breaker looks at a message's own result alone, where that has come.
func TestBreaker(t *testing.T) {
	play(t, "nth 0 with breaker 2 10", "1 [] => 1=panic index 0*", "2 [1] => 2=1*", "3 [] => 3=panic index 0*", "4 [] => 4=panic index 0*", "ping nil => error 140", "5 [1] => 5=error 140*", "at 9", "6 [1] => 6=error 140*", "ping nil => error 140", "at 10", "ping nil => true", "7 [1] => 7=1*", "8 [] => 8=panic index 0*", "9 [1] => 9=1*")
	// Of four, it is told of two.
	st := play(t, "fail 1 with buffer 2 0 with breaker 3 10", "1 1 => -", "2 1 => 1=code 1, 2=code 1*", "3 1 => -", "4 1 => 3=code 1, 4=code 1*")
	if st.Wraps[1].Breaker != (api.Breaker{Fails: 2}) {
		t.Error(st)
	}
	// Within the buffer it is told of each.
	play(t, "fail 1 with breaker 3 10 with buffer 4 0", "1 1 => -", "2 1 => -", "3 1 => -", "4 1 => 1=code 1, 2=code 1, 3=code 1, 4=error 140*")
	// What was refused ahead tells nothing.
	st = play(t, "fail 1 with limit 1 9 with breaker 2 10", "1 1 => 1=code 1*", "2 1 => 2=error 130*", "3 1 => 3=error 130*")
	if st.Wraps[1].Breaker != (api.Breaker{Fails: 1}) {
		t.Error(st)
	}
}

// P20.2: numbers are what is known; one goes where there is no room.
func TestDedup(t *testing.T) {
	play(t, "count with dedup 2", "5 1 => 5=1*", "5 2 => 5=error 150*", "6 1 => 6=2*", "7 1 => 7=3*", "6 1 => 6=error 150*", "5 1 => 5=4*", "-5 1 => -5=5*", "0 1 => 0=6*")
	play(t, "fail 1 with dedup 2", "5 1 => 5=code 1*", "5 1 => 5=error 150*")
	// Around a buffer what is held is known.
	play(t, "count with buffer 2 0 with dedup 2", "5 1 => -", "5 1 => 5=error 150*", "6 1 => 5=1, 6=2*")
	play(t, "count with dedup 2 with buffer 2 0", "5 1 => -", "5 1 => 5=1, 5=error 150*")
}

// P20.2: all go on with the A-th one; buffers within buffers.
func TestBuffer(t *testing.T) {
	play(t, "echo with buffer 1 0", "1 5 => 1=5*", "2 6 => 2=6*")
	play(t, "count with buffer 2 0 with buffer 3 0", "1 1 => -", "2 1 => -", "3 1 => 1=1, 2=2", "4 1 => -", "5 1 => -", "6 1 => 3=3, 4=4, 5=5, 6=6*")
	play(t, "count with buffer 3 0 with buffer 2 0", "1 1 => -", "2 1 => -", "3 1 => -", "4 1 => 1=1, 2=2, 3=3", "5 1 => -", "6 1 => 4=4, 5=5, 6=6*")
	// A mapped body is what is held within, the one that came is what is held without.
	st := play(t, "echo with buffer 2 0 with map:double with buffer 2 0", "1 5 => -", "2 6 => 1=10, 2=12*", "3 7 => -", "flush nil => 1", "4 1 => -")
	if l := Held(st); len(l) != 2 || l[0].Id != 3 || l[0].Body.Int != 14 || l[1].Id != 4 || l[1].Body.Int != 1 {
		t.Error(st)
	}
}

// P20.2: the pattern is asked of the body.
func TestFilter(t *testing.T) {
	play(t, "echo with filter when int | text & !(name)", "1 5 => 1=5*", "2 nil => 2=error 171*", `3 "x" => 3="x"*`, "4 &nil => 4=error 171*")
	play(t, "echo with filter when nil", "1 nil => 1=nil*", "2 5 => 2=error 171*")
	play(t, "echo with filter when any", "1 nil => 1=error 171*", "2 5 => 2=5*")
}

// P20.2: what a map makes of it goes on, with all else of the message; what it makes nothing of is told.
func TestMap(t *testing.T) {
	play(t, "echo with map:double", "1 5 => 1=10*", `2 "a" => 2=panic assert 5*`, "3 nil => 3=panic assert -1*")
	play(t, "echo with map:list", "1 5 => 1=[5]*")
	play(t, "echo with map:unbox", "1 &1(4) => 1=4*", "2 &nil => 2=panic nil 0*", "3 4 => 3=panic assert 3*")
	play(t, "echo with map:size", `1 "abc" => 1=3*`, "2 true => 2=error 12*")
	play(t, "echo with map:name", `1 #7 => 1="key 7"*`, "2 7 => 2=error 12*")
	play(t, "echo with map:not", "1 true => 1=false*", "2 5 => 2=panic assert 1*")
	play(t, "echo with map:pair", `1 5 => 1=("t", 5)*`)
	play(t, "echo with map:key", "1 5 => 1=#5*", `2 "a" => 2=@"a"*`, "3 true => 3=true*")
	// The outer one comes first.
	play(t, "echo with map:list with map:size", `1 "ab" => 1=[2]*`)
	play(t, "echo with map:size with map:list", `1 "ab" => 1=1*`)
	play(t, "count with map:not with dedup 3 with until 4", "at 9", "7@5 true => 7=1*", "7@5 true => 7=error 150*", "8@4 true => 8=error 170*", "7@4 true => 7=error 170*")
	deep := strings.Repeat("[", 16) + strings.Repeat("]", 16)
	play(t, "echo with map:list", "1 "+deep+" => 1=error 14*")
}

// P20.2: at the last tick it is not too late, one behind it is; by what the message says, and by what it was told.
func TestUntil(t *testing.T) {
	play(t, "count with until 4", "at 9", "1@5 1 => 1=1*", "2@4 1 => 2=error 170*", "3@9 1 => 3=2*", "4@1099511627776 1 => 4=3*", "until 9 => none", "5@9 1 => 5=4*", "at 10", "6@10 1 => 6=error 170*", "until 0 => none", "7@10 1 => 7=5*", "8@6 1 => 8=6*", "9@5 1 => 9=error 170*")
	play(t, "echo with until 1000000", "at 1099511627776", "1@1099510627776 1 => 1=1*", "2@1099510627775 1 => 2=error 170*")
}

// P20.2: the results of those that were held are told by their own numbers.
func TestOthersPass(t *testing.T) {
	play(t, "store 2 with buffer 3 0 with breaker 1 5 with retry 3 with filter when int", "1 5 => -", "2 6 => -", `3 "x" => 3=error 171*`, "4 7 => 1=0, 2=1, 4=error 140*")
}
