package files

import (
	"errors"

	"conduit/api"
)

// walk comes to a path, and to all that lies in it, as visit says.
func walk(s store, root string, visit func(path string) error) error {
	info, err := stat(s, root)
	if err != nil {
		return err
	}
	return butLeftOut(come(s, root, info.Dir, visit))
}

// come comes to a path; what it answers of a file is for the directory that the file was found in.
func come(s store, path string, isDir bool, visit func(path string) error) error {
	err := visit(path)
	if !isDir {
		return err
	}
	if err != nil {
		return butLeftOut(err)
	}
	l, err := readDir(s, path)
	if err != nil {
		return err
	}
	return butLeftOut(inside(s, path, l, visit))
}

func inside(s store, dir string, l []api.Info, visit func(path string) error) error {
	for _, x := range l {
		if err := come(s, join(dir, x.Name), x.Dir, visit); err != nil {
			return err
		}
	}
	return nil
}

// butLeftOut is an error, where leaving out is none.
func butLeftOut(err error) error {
	if errors.Is(err, errLeftOut) {
		return nil
	}
	return err
}
