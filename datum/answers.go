package datum

import (
	"conduit/api"
	"conduit/value"
)

func answers(v any, method int) (ok bool) {
	switch method {
	case api.MSize:
		_, ok = v.(value.Sized)
	case api.MName:
		_, ok = v.(value.Named)
	case api.MError:
		_, ok = v.(value.Failing)
	case api.MOpen:
		_, ok = v.(value.Opening)
	case api.MLess:
		_, ok = v.(value.Ordered)
	case api.MAdd:
		_, ok = v.(value.Adding)
	}
	return ok
}
