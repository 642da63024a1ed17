package check

import "conduit/api"

// refuse throws a fault, if what is asked is so.
func refuse(wrong bool, pos int, err api.Errno) {
	if wrong {
		panic(api.Fault{Pos: pos, Err: err})
	}
}

// caught makes a plan, or tells the fault that was thrown meanwhile. Any other panic is no fault of a tree, and goes on.
func caught(build func() api.Plan) (plan api.Plan, fault api.Fault) {
	defer func() {
		switch thrown := recover().(type) {
		case nil:
		case api.Fault:
			fault = thrown
		default:
			panic(thrown)
		}
	}()
	return build(), api.Fault{}
}
