package desk

import (
	"strconv"

	"conduit/api"
	"conduit/bus"
	"conduit/check"
	"conduit/scan"
	"conduit/snap"
)

func (d *Desk) clear(said) string {
	d.opened, d.typed, d.saved = opened{}, nil, nil
	return "new\n"
}

func (d *Desk) add(s said) string {
	if len(d.typed)+len(s.rest)+1 > api.MaxSource {
		return refused(api.ErrLine)
	}
	d.typed = append(append(d.typed, s.rest...), '\n')
	return ""
}

func (d *Desk) text(said) string { return string(d.typed) }

func (d *Desk) check(said) string {
	return d.withPlan(func(p api.Plan) string {
		return "ok: " + strconv.Itoa(len(p.Handlers)) + " handlers, " + strconv.Itoa(len(p.Routes)) + " routes\n"
	})
}

func (d *Desk) print(said) string { return d.withPlan(check.Write) }

func (d *Desk) open(said) string {
	return d.withPlan(func(p api.Plan) string {
		d.opened = opened{isOpen: true, plan: p, state: bus.New(p)}
		return "open\n"
	})
}

// withPlan is what is answered of the text's plan; of a text that has none, its fault.
func (d *Desk) withPlan(answer func(api.Plan) string) string {
	p, fault := check.Load(d.typed)
	if fault.Err == api.OK {
		return answer(p)
	}
	line, column := scan.Line(d.typed, fault.Pos)
	return "fault " + strconv.Itoa(line) + ":" + strconv.Itoa(column) + " " + refused(fault.Err)
}

func (d *Desk) save(said) string {
	d.saved = snap.Save(d.plan, d.state)
	return "saved " + strconv.Itoa(len(d.saved)) + " bytes\n"
}

func (d *Desk) load(said) string {
	if d.saved == nil {
		return refused(api.ErrNothing)
	}
	st, fault := snap.Load(d.plan, d.saved)
	if fault != api.OK {
		return refused(fault)
	}
	d.state = st
	return "loaded\n"
}
