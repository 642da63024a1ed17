package fits_test

import (
	"math"
	"strings"
	"testing"

	"conduit/api"
	"conduit/fits"
)

const lastTick = 1099511627776 // 2^40

func TestTick(t *testing.T) {
	for n, want := range map[int64]bool{math.MinInt64: false, -1: false, 0: true, 1: true, lastTick: true, lastTick + 1: false, math.MaxInt64: false} {
		if fits.Tick(n) != want {
			t.Error(n)
		}
	}
}

// A message is fit by its Body, Topic, Reply, At, Until and Hops; its other fields play no part.
func TestMsg(t *testing.T) {
	good := api.Msg{Id: math.MinInt64, Topic: "x", Body: api.Datum{Kind: api.KInt}, At: lastTick, Until: lastTick, Reply: "r", Corr: -1, Prio: math.MinInt64, Hops: 8}
	for i, do := range []func(m *api.Msg){
		func(*api.Msg) {}, func(m *api.Msg) { *m = api.Msg{Topic: "$s/"} }, func(m *api.Msg) { m.Reply = "" }, func(m *api.Msg) { m.Topic = strings.Repeat("x", 65535) },
	} {
		m := good
		if do(&m); !fits.Msg(m) {
			t.Error(i, m)
		}
	}
	for i, do := range []func(m *api.Msg){
		func(m *api.Msg) { m.Topic = "" }, func(m *api.Msg) { m.Topic = "x/+" }, func(m *api.Msg) { m.Topic = strings.Repeat("x", 65536) }, func(m *api.Msg) { m.Reply = "#" }, func(m *api.Msg) { m.Reply = "\xff" },
		func(m *api.Msg) { m.At = -1 }, func(m *api.Msg) { m.At = lastTick + 1 }, func(m *api.Msg) { m.Until = -1 }, func(m *api.Msg) { m.Until = lastTick + 1 },
		func(m *api.Msg) { m.Hops = -1 }, func(m *api.Msg) { m.Hops = 9 }, func(m *api.Msg) { m.Body.Kind = api.NumKinds }, func(m *api.Msg) { m.Body.Text = "t" },
	} {
		m := good
		do(&m)
		if fits.Msg(m) || fits.Msgs([]api.Msg{good, m}) || fits.Msgs([]api.Msg{m, good}) {
			t.Error(i, m)
		}
	}
	if !fits.Msgs(nil) || !fits.Msgs([]api.Msg{good, good}) {
		t.Error("fit ones are not")
	}
}
