package shut

import (
	"errors"
	"strconv"
	"strings"

	"conduit/api"
)

// failure is a result that is an error, as an error of the language.
type failure struct{ api.Done }

func (f failure) Error() string {
	return strconv.FormatInt(f.Id, 10) + ": " + f.Result.Err.Error()
}

// failures is the errors of many as one error.
type failures []error

func (l failures) Error() string {
	var all []string
	for _, err := range l {
		all = append(all, err.Error())
	}
	return strings.Join(all, "; ")
}

func (l failures) Unwrap() []error { return l }

// errorOf is the one error of results; nil, if there is none.
func errorOf(l []api.Done) error {
	var all failures
	for _, d := range l {
		if d.Result.Err != api.OK {
			all = append(all, failure{d})
		}
	}
	if len(all) == 0 {
		return nil
	}
	return all
}

// failedOf is the results that an error is made of, in memory of their own.
func failedOf(err error) []api.Done {
	var all failures
	if !errors.As(err, &all) {
		return nil
	}
	var l []api.Done
	for _, one := range all.Unwrap() {
		var f failure
		if errors.As(one, &f) {
			l = append(l, copied(f.Done))
		}
	}
	return l
}
